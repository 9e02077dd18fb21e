/- Layer 1: the laws' walks. -/
import Derived.Test.YtpliefabefmmjaaDoorKind
namespace Go.Proofs.YtpliefabefmmjaaDoor
open Go.RowKit
theorem kFind_kName {t : Int} (h : 1 ≤ t ∧ t ≤ 6) : kFind (kName t) = t := by
  obtain rfl | rfl | rfl | rfl | rfl | rfl : t = 1 ∨ t = 2 ∨ t = 3 ∨ t = 4 ∨ t = 5 ∨ t = 6 := by omega
  all_goals decide +kernel
theorem law01_awake (w : World) (hn : KNames w) : Calls Tryd.prog 16 #[] w fun e w' => e = .returned (.bool true) ∧ w = w' := by
  have e1 : kWrap 2 40000 = -25536 := by decide
  have e2 : kName 1 = ⟨#[66, 79, 79, 76]⟩ := rfl
  go_enter Tryd.func16, Tryd.ntmps16
  go_wp2_with (first | (go_at_call 17; refine (kind_Wrap _ _ _).mono ?_; rintro e w' ⟨rfl, rfl⟩) | (go_at_call 8; refine (kind_Name _ _ hn).mono ?_; rintro e w' ⟨rfl, rfl⟩))
  go_ret
  exact ⟨rfl, rfl⟩
theorem kindTells_walk (t : Int) (s : ByteArray) (w : World) (hn : KNames w) (hs : KSizes w) : Calls Tryd.prog 3 #[.int .i64 t, .string s] w fun e w' => e = .returned (.bool true) ∧ Below w.heap.size w w' := by
  by_cases h : 1 ≤ t ∧ t ≤ 6
  · have hr := kRight_yes h
    have hf := Lib.hid (kFind_kName h)
    go_enter Tryd.func3, Tryd.ntmps3
    go_wp2_with fail
    refine (kind_Right _ _).mono ?_; rintro e w' ⟨rfl, rfl⟩
    go_wp2_with fail
    refine (ref01_Right _ _).mono ?_; rintro e w' ⟨rfl, rfl⟩
    go_wp2_with fail
    refine (kind_Name _ _ hn).mono ?_; rintro e w' ⟨rfl, rfl⟩
    go_wp2_with fail
    refine (ref01_Name _ _).mono ?_; rintro e w1 ⟨rfl, hb1⟩
    go_wp2_with fail
    refine (kind_Find _ _ (hn.below hb1)).mono ?_; rintro e w' ⟨rfl, rfl⟩
    go_wp2_with fail
    refine (ref01_Find _ _).mono ?_; rintro e w2 ⟨rfl, hb2⟩
    have hb2 := hb1.trans (hb2.mono hb1.size)
    go_wp2_with fail
    refine (kind_Bits _ _ (hs.below hb2)).mono ?_; rintro e w' ⟨rfl, rfl⟩
    go_wp2_with fail
    refine (ref01_Bits _ _).mono ?_; rintro e w3 ⟨rfl, hb3⟩
    have hb3 := hb2.trans (hb3.mono hb2.size)
    go_wp2_with fail
    refine (kind_Signed _ _).mono ?_; rintro e w' ⟨rfl, rfl⟩
    go_wp2_with fail
    refine (ref01_Signed _ _).mono ?_; rintro e w' ⟨rfl, rfl⟩
    go_wp2_with fail
    refine (ref01_Right _ _).mono ?_; rintro e w' ⟨rfl, rfl⟩
    go_wp2_with fail
    refine (kind_Name _ _ (hn.below hb3)).mono ?_; rintro e w' ⟨rfl, rfl⟩
    go_wp2_with fail
    refine (kind_Find _ _ (hn.below hb3)).mono ?_; rintro e w' ⟨rfl, rfl⟩
    rw [hf.out]
    go_wp2_with fail
    refine (law01_awake _ (hn.below hb3)).mono ?_; rintro e w' ⟨rfl, rfl⟩
    go_wp2_with fail
    go_ret
    exact ⟨rfl, hb3⟩
  · have hr := kRight_no h
    go_enter Tryd.func3, Tryd.ntmps3
    go_wp2_with fail
    refine (kind_Right _ _).mono ?_; rintro e w' ⟨rfl, rfl⟩
    go_wp2_with fail
    refine (ref01_Right _ _).mono ?_; rintro e w' ⟨rfl, rfl⟩
    go_wp2_with fail
    refine (kind_Name _ _ hn).mono ?_; rintro e w' ⟨rfl, rfl⟩
    go_wp2_with fail
    refine (ref01_Name _ _).mono ?_; rintro e w1 ⟨rfl, hb1⟩
    go_wp2_with fail
    refine (kind_Find _ _ (hn.below hb1)).mono ?_; rintro e w' ⟨rfl, rfl⟩
    go_wp2_with fail
    refine (ref01_Find _ _).mono ?_; rintro e w2 ⟨rfl, hb2⟩
    have hb2 := hb1.trans (hb2.mono hb1.size)
    go_wp2_with fail
    refine (kind_Bits _ _ (hs.below hb2)).mono ?_; rintro e w' ⟨rfl, rfl⟩
    go_wp2_with fail
    refine (ref01_Bits _ _).mono ?_; rintro e w3 ⟨rfl, hb3⟩
    have hb3 := hb2.trans (hb3.mono hb2.size)
    go_wp2_with fail
    refine (kind_Signed _ _).mono ?_; rintro e w' ⟨rfl, rfl⟩
    go_wp2_with fail
    refine (ref01_Signed _ _).mono ?_; rintro e w' ⟨rfl, rfl⟩
    go_wp2_with fail
    refine (ref01_Right _ _).mono ?_; rintro e w' ⟨rfl, rfl⟩
    go_wp2_with fail
    refine (law01_awake _ (hn.below hb3)).mono ?_; rintro e w' ⟨rfl, rfl⟩
    go_wp2_with fail
    go_ret
    exact ⟨rfl, hb3⟩
theorem kindWraps_walk (t v : Int) (hv : -9223372036854775808 ≤ v ∧ v ≤ 9223372036854775807) (w : World) (hn : KNames w) : Calls Tryd.prog 4 #[.int .i64 t, .int .i64 v] w fun e w' => e = .returned (.bool true) ∧ Below w.heap.size w w' := by
  have hv := Lib.hid hv
  go_enter Tryd.func4, Tryd.ntmps4
  go_wp2_with fail
  refine (kind_Wrap _ _ _).mono ?_; rintro e w' ⟨rfl, rfl⟩
  go_wp2_with fail
  refine (ref01_Wrap _ _ hv.out _).mono ?_; rintro e w' ⟨rfl, rfl⟩
  go_wp2_with fail
  refine (kind_In _ _ _).mono ?_; rintro e w' ⟨rfl, rfl⟩
  go_wp2_with fail
  refine (ref01_In _ _ _).mono ?_; rintro e w' ⟨rfl, rfl⟩
  go_wp2_with fail
  refine (law01_awake _ hn).mono ?_; rintro e w' ⟨rfl, rfl⟩
  go_wp2_with fail
  go_ret
  exact ⟨rfl, Below.refl _ _⟩
theorem kWrap_congr {t : Int} (h2 : 2 ≤ t) (h5 : t ≤ 5) : ∃ m : Int, (m = 65536 ∨ m = 4294967296) ∧ (∀ v, kWrap t v % m = v % m) ∧ ∀ v u, v % m = u % m → kWrap t v = kWrap t u := by
  obtain rfl | rfl | rfl | rfl : t = 2 ∨ t = 3 ∨ t = 4 ∨ t = 5 := by omega
  · exact ⟨65536, Or.inl rfl, fun v => by rw [kWrap_2]; omega, fun v u h => by rw [kWrap_2, kWrap_2]; omega⟩
  · exact ⟨4294967296, Or.inr rfl, fun v => by rw [kWrap_3]; omega, fun v u h => by rw [kWrap_3, kWrap_3]; omega⟩
  · exact ⟨65536, Or.inl rfl, fun v => by rw [kWrap_4]; omega, fun v u h => by rw [kWrap_4, kWrap_4]; omega⟩
  · exact ⟨4294967296, Or.inr rfl, fun v => by rw [kWrap_5]; omega, fun v u h => by rw [kWrap_5, kWrap_5]; omega⟩
theorem kWrap_add {t : Int} (_h1 : t ≠ 1) (a b : Int) : kWrap t (wrap64 (kWrap t a + kWrap t b)) = kWrap t (wrap64 (a + b)) := by
  by_cases h : 1 ≤ t ∧ t ≤ 6
  · by_cases h6 : t = 6
    · subst h6; rfl
    · obtain ⟨m, hm, h3, h4⟩ := kWrap_congr (t := t) (by omega) (by omega)
      apply h4
      have q1 := h3 a
      have q2 := h3 b
      unfold wrap64
      rcases hm with rfl | rfl <;> omega
  · rw [kWrap_no h, kWrap_no h]
theorem wrap64_mod {m : Int} (hm : m = 65536 ∨ m = 4294967296) (z : Int) : wrap64 z % m = z % m := by
  unfold wrap64; rcases hm with rfl | rfl <;> omega
theorem kWrap_mul {t : Int} (_h1 : t ≠ 1) (a b : Int) : kWrap t (wrap64 (kWrap t a * kWrap t b)) = kWrap t (wrap64 (a * b)) := by
  by_cases h : 1 ≤ t ∧ t ≤ 6
  · by_cases h6 : t = 6
    · subst h6; rfl
    · obtain ⟨m, hm, h3, h4⟩ := kWrap_congr (t := t) (by omega) (by omega)
      apply h4
      rw [wrap64_mod hm, wrap64_mod hm, Int.mul_emod, h3 a, h3 b, ← Int.mul_emod]
  · rw [kWrap_no h, kWrap_no h]
theorem kWrap_kWrap (t a : Int) : kWrap t (kWrap t a) = kWrap t a := by
  by_cases h : 1 ≤ t ∧ t ≤ 6
  · obtain rfl | rfl | rfl | rfl | rfl | rfl : t = 1 ∨ t = 2 ∨ t = 3 ∨ t = 4 ∨ t = 5 ∨ t = 6 := by omega
    · rw [kWrap_1, kWrap_1]; by_cases h0 : a = 0 <;> simp [h0]
    · rw [kWrap_2, kWrap_2]; omega
    · rw [kWrap_3, kWrap_3]; omega
    · rw [kWrap_4, kWrap_4]; omega
    · rw [kWrap_5, kWrap_5]; omega
    · rfl
  · rw [kWrap_no h, kWrap_no h]
theorem kindStays_walk (t a b : Int) (w : World) (hn : KNames w) :
    Calls Tryd.prog 5 #[.int .i64 t, .int .i64 a, .int .i64 b] w fun e w' => e = .returned (.bool true) ∧ Below w.heap.size w w' := by
  have Hk := Lib.hid (kWrap_kWrap t a)
  have Hadd := fun h1 => Lib.hid (kWrap_add (t := t) h1 a b)
  have Hmul := fun h1 => Lib.hid (kWrap_mul (t := t) h1 a b)
  by_cases h : 1 ≤ t ∧ t ≤ 6
  · have hr := kRight_yes h
    have Hin := Lib.hid (show kIn t (kWrap t a) = true by rw [kIn_yes h, Hk.out]; simp)
    have Hia := Lib.hid (kIn_yes (v := a) h)
    by_cases h1 : t = 1
    · subst h1
      go_enter Tryd.func5, Tryd.ntmps5
      go_wp2_with fail
      refine (kind_Wrap _ _ _).mono ?_; rintro e w' ⟨rfl, rfl⟩
      go_wp2_with fail
      refine (kind_Wrap _ _ _).mono ?_; rintro e w' ⟨rfl, rfl⟩
      go_wp2_with fail
      refine (kind_Right _ _).mono ?_; rintro e w' ⟨rfl, rfl⟩
      go_wp2_with fail
      refine (kind_In _ _ _).mono ?_; rintro e w' ⟨rfl, rfl⟩
      rw [Hin.out]
      go_wp2_with fail
      refine (kind_Wrap _ _ _).mono ?_; rintro e w' ⟨rfl, rfl⟩
      rw [Hk.out]
      go_wp2_with fail
      refine (kind_In _ _ _).mono ?_; rintro e w' ⟨rfl, rfl⟩
      rw [Hia.out]
      go_wp2_with fail
      refine (law01_awake _ hn).mono ?_; rintro e w' ⟨rfl, rfl⟩
      go_wp2_with fail
      go_ret
      exact ⟨rfl, Below.refl _ _⟩
    · have e1 : ((t : Int) == 1) = false := by simpa using h1
      go_enter Tryd.func5, Tryd.ntmps5
      go_wp2_with fail
      refine (kind_Wrap _ _ _).mono ?_; rintro e w' ⟨rfl, rfl⟩
      go_wp2_with fail
      refine (kind_Wrap _ _ _).mono ?_; rintro e w' ⟨rfl, rfl⟩
      go_wp2_with fail
      refine (kind_Right _ _).mono ?_; rintro e w' ⟨rfl, rfl⟩
      go_wp2_with fail
      refine (kind_In _ _ _).mono ?_; rintro e w' ⟨rfl, rfl⟩
      rw [Hin.out]
      go_wp2_with fail
      refine (kind_Wrap _ _ _).mono ?_; rintro e w' ⟨rfl, rfl⟩
      rw [Hk.out]
      go_wp2_with fail
      refine (kind_In _ _ _).mono ?_; rintro e w' ⟨rfl, rfl⟩
      rw [Hia.out]
      go_wp2_with fail
      refine (kind_Wrap _ _ _).mono ?_; rintro e w' ⟨rfl, rfl⟩
      go_wp2_with fail
      refine (kind_Wrap _ _ _).mono ?_; rintro e w' ⟨rfl, rfl⟩
      rw [(Hadd h1).out]
      go_wp2_with fail
      refine (kind_Wrap _ _ _).mono ?_; rintro e w' ⟨rfl, rfl⟩
      go_wp2_with fail
      refine (kind_Wrap _ _ _).mono ?_; rintro e w' ⟨rfl, rfl⟩
      rw [(Hmul h1).out]
      go_wp2_with fail
      refine (law01_awake _ hn).mono ?_; rintro e w' ⟨rfl, rfl⟩
      go_wp2_with fail
      go_ret
      exact ⟨rfl, Below.refl _ _⟩
  · have hr := kRight_no h
    have h1 : t ≠ 1 := by omega
    have e1 : ((t : Int) == 1) = false := by simpa using h1
    go_enter Tryd.func5, Tryd.ntmps5
    go_wp2_with fail
    refine (kind_Wrap _ _ _).mono ?_; rintro e w' ⟨rfl, rfl⟩
    go_wp2_with fail
    refine (kind_Wrap _ _ _).mono ?_; rintro e w' ⟨rfl, rfl⟩
    go_wp2_with fail
    refine (kind_Right _ _).mono ?_; rintro e w' ⟨rfl, rfl⟩
    go_wp2_with fail
    refine (kind_Wrap _ _ _).mono ?_; rintro e w' ⟨rfl, rfl⟩
    go_wp2_with fail
    refine (kind_Wrap _ _ _).mono ?_; rintro e w' ⟨rfl, rfl⟩
    rw [(Hadd h1).out]
    go_wp2_with fail
    refine (kind_Wrap _ _ _).mono ?_; rintro e w' ⟨rfl, rfl⟩
    go_wp2_with fail
    refine (kind_Wrap _ _ _).mono ?_; rintro e w' ⟨rfl, rfl⟩
    rw [(Hmul h1).out]
    go_wp2_with fail
    refine (law01_awake _ hn).mono ?_; rintro e w' ⟨rfl, rfl⟩
    go_wp2_with fail
    go_ret
    exact ⟨rfl, Below.refl _ _⟩
end Go.Proofs.YtpliefabefmmjaaDoor
