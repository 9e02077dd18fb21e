/- Contracts of the functions of kind (layer 1) and of its answer. -/
import Derived.Test.YtefejcofmopjfaaGreatDoorChecked
import Derived.WalkKit
import Derived.WalkSpells
import Derived.WalkLawsBesides
import Derived.Lib.Hide
import Derived.Handy
namespace Go.Proofs.YtefejcofmopjfaaGreatDoor
open Go.RowKit

def kRight (t : Int) : Bool := decide (1 ≤ t ∧ t ≤ 6)
theorem kRight_yes {t : Int} (h : 1 ≤ t ∧ t ≤ 6) : kRight t = true := by simp [kRight, h]
theorem kRight_no {t : Int} (h : ¬ (1 ≤ t ∧ t ≤ 6)) : kRight t = false := by unfold kRight; exact decide_eq_false h

theorem kind_Right (t : Int) (w : World) : Calls Tryz.prog 89 #[.int .i64 t] w fun e w' => e = .returned (.bool (kRight t)) ∧ w = w' := by
  by_cases h1 : 1 ≤ t
  · by_cases h2 : t ≤ 6
    · go_enter Tryz.func89, Tryz.ntmps89
      go_wp2
      go_ret
      exact ⟨by rw [kRight_yes ⟨h1, h2⟩]; rfl, rfl⟩
    · go_enter Tryz.func89, Tryz.ntmps89
      go_wp2
      go_ret
      exact ⟨by rw [kRight_no (by omega)]; rfl, rfl⟩
  · go_enter Tryz.func89, Tryz.ntmps89
    go_wp2
    go_ret
    exact ⟨by rw [kRight_no (by omega)]; rfl, rfl⟩
theorem ref01_Right (t : Int) (w : World) : Calls Tryz.prog 23 #[.int .i64 t] w fun e w' => e = .returned (.bool (kRight t)) ∧ w = w' := by
  by_cases h1 : 0 < t
  · by_cases h2 : t < 7
    · go_enter Tryz.func23, Tryz.ntmps23
      go_wp2
      go_ret
      exact ⟨by rw [kRight_yes (by omega)]; rfl, rfl⟩
    · go_enter Tryz.func23, Tryz.ntmps23
      go_wp2
      go_ret
      exact ⟨by rw [kRight_no (by omega)]; rfl, rfl⟩
  · go_enter Tryz.func23, Tryz.ntmps23
    go_wp2
    go_ret
    exact ⟨by rw [kRight_no (by omega)]; rfl, rfl⟩

/-- the names' bytes -/
def kName (t : Int) : ByteArray :=
  if t = 1 then ⟨#[66, 79, 79, 76]⟩ else if t = 2 then ⟨#[73, 78, 84]⟩ else if t = 3 then ⟨#[68, 73, 78, 84]⟩
  else if t = 4 then ⟨#[87, 79, 82, 68]⟩ else if t = 5 then ⟨#[68, 87, 79, 82, 68]⟩ else if t = 6 then ⟨#[84, 73, 77, 69]⟩ else ⟨#[]⟩
theorem kName_no {t : Int} (h : ¬ (1 ≤ t ∧ t ≤ 6)) : kName t = ⟨#[]⟩ := by
  unfold kName
  rw [if_neg (show ¬ t = 1 by omega), if_neg (show ¬ t = 2 by omega), if_neg (show ¬ t = 3 by omega), if_neg (show ¬ t = 4 by omega), if_neg (show ¬ t = 5 by omega), if_neg (show ¬ t = 6 by omega)]
def kSigned (t : Int) : Bool := t == 2 || t == 3 || t == 6
def kWrap (t v : Int) : Int :=
  if t = 1 then (if v = 0 then 0 else 1) else if t = 2 then IntKind.i16.wrap v else if t = 3 then IntKind.i32.wrap v
  else if t = 4 then IntKind.u16.wrap v else if t = 5 then IntKind.u32.wrap v else if t = 6 then v else 0
theorem kWrap_no {t v : Int} (h : ¬ (1 ≤ t ∧ t ≤ 6)) : kWrap t v = 0 := by
  unfold kWrap
  rw [if_neg (show ¬ t = 1 by omega), if_neg (show ¬ t = 2 by omega), if_neg (show ¬ t = 3 by omega), if_neg (show ¬ t = 4 by omega), if_neg (show ¬ t = 5 by omega), if_neg (show ¬ t = 6 by omega)]
theorem kw_i16 (v : Int) : IntKind.i16.wrap v = (v + 32768) % 65536 - 32768 := by
  unfold IntKind.wrap; simp [IntKind.signed, IntKind.bits]; split <;> omega
theorem kw_u16 (v : Int) : IntKind.u16.wrap v = v % 65536 := by
  unfold IntKind.wrap; simp [IntKind.signed, IntKind.bits]
theorem tm_in (v m : Int) (hm : 0 < m) : ∃ q, v.tmod m = v - m * q ∧ -m < v.tmod m ∧ v.tmod m < m ∧ (0 ≤ v → 0 ≤ v.tmod m) ∧ (v ≤ 0 → v.tmod m ≤ 0) := by
  refine ⟨v.tdiv m, ?_, ?_, ?_, fun h => Int.tmod_nonneg _ h, ?_⟩
  · have := Int.tmod_add_mul_tdiv v m; omega
  · by_cases h : 0 ≤ v
    · have := Int.tmod_nonneg m h; omega
    · have h1 := Int.tmod_lt_of_pos (-v) hm
      rw [Int.neg_tmod] at h1; omega
  · exact Int.tmod_lt_of_pos v hm
  · intro h
    have h1 := Int.tmod_nonneg m (show 0 ≤ -v by omega)
    rw [Int.neg_tmod] at h1; omega
theorem kw_u32 (v : Int) : IntKind.u32.wrap v = v % 4294967296 := IntKind.wrap_u32 v
theorem kWrap_1 (v : Int) : kWrap 1 v = if v = 0 then 0 else 1 := rfl
theorem kWrap_2 (v : Int) : kWrap 2 v = (v + 32768) % 65536 - 32768 := by rw [← kw_i16]; rfl
theorem kWrap_3 (v : Int) : kWrap 3 v = (v + 2147483648) % 4294967296 - 2147483648 := by show IntKind.i32.wrap v = _; rw [IntKind.wrap_i32]
theorem kWrap_4 (v : Int) : kWrap 4 v = v % 65536 := by rw [← kw_u16]; rfl
theorem kWrap_5 (v : Int) : kWrap 5 v = v % 4294967296 := by rw [← kw_u32]; rfl
theorem kWrap_6 (v : Int) : kWrap 6 v = v := rfl
theorem ret_i64 {a b : Int} (h : a = b) : Ending.returned (.int .i64 a) = .returned (.int .i64 b) := by rw [h]
theorem ret_b {a b : Bool} (h : a = b) : Ending.returned (.bool a) = .returned (.bool b) := by rw [h]
theorem ret_s {a b : ByteArray} (h : a = b) : Ending.returned (.string a) = .returned (.string b) := by rw [h]
theorem kind_Wrap (t v : Int) (w : World) : Calls Tryz.prog 90 #[.int .i64 t, .int .i64 v] w fun e w' => e = .returned (.int .i64 (kWrap t v)) ∧ w = w' := by
  by_cases h : 1 ≤ t ∧ t ≤ 6
  · obtain rfl | rfl | rfl | rfl | rfl | rfl : t = 1 ∨ t = 2 ∨ t = 3 ∨ t = 4 ∨ t = 5 ∨ t = 6 := by omega
    · by_cases hv : v = 0
      · subst hv
        go_enter Tryz.func90, Tryz.ntmps90; go_wp2; go_ret; exact ⟨ret_i64 rfl, rfl⟩
      · have hv' : ((v : Int) == 0) = false := by simpa using hv
        go_enter Tryz.func90, Tryz.ntmps90; go_wp2; go_ret; exact ⟨ret_i64 (by rw [kWrap_1, if_neg hv]), rfl⟩
    · go_enter Tryz.func90, Tryz.ntmps90; go_wp2; go_ret; exact ⟨ret_i64 (by rw [kWrap_2]; simp only [wrap64, kw_i16]; omega), rfl⟩
    · go_enter Tryz.func90, Tryz.ntmps90; go_wp2; go_ret; exact ⟨ret_i64 (by rw [kWrap_3]; simp only [wrap64, wrap32]; omega), rfl⟩
    · go_enter Tryz.func90, Tryz.ntmps90; go_wp2; go_ret; exact ⟨ret_i64 (by rw [kWrap_4]; simp only [wrap64, kw_u16]; omega), rfl⟩
    · go_enter Tryz.func90, Tryz.ntmps90; go_wp2; go_ret; exact ⟨ret_i64 (by rw [kWrap_5]), rfl⟩
    · go_enter Tryz.func90, Tryz.ntmps90; go_wp2; go_ret; exact ⟨ret_i64 rfl, rfl⟩
  · have e1 : ((t : Int) == 1) = false := by simp; omega
    have e2 : ((t : Int) == 2) = false := by simp; omega
    have e3 : ((t : Int) == 3) = false := by simp; omega
    have e4 : ((t : Int) == 4) = false := by simp; omega
    have e5 : ((t : Int) == 5) = false := by simp; omega
    have e6 : ((t : Int) == 6) = false := by simp; omega
    go_enter Tryz.func90, Tryz.ntmps90; go_wp2; go_ret; exact ⟨ret_i64 (by rw [kWrap_no h]), rfl⟩
def kIn (t v : Int) : Bool := kRight t && kWrap t v == v
theorem kIn_no {t v : Int} (h : ¬ (1 ≤ t ∧ t ≤ 6)) : kIn t v = false := by simp [kIn, kRight_no h]
theorem kIn_yes {t v : Int} (h : 1 ≤ t ∧ t ≤ 6) : kIn t v = (kWrap t v == v) := by simp [kIn, kRight_yes h]
theorem kind_In (t v : Int) (w : World) : Calls Tryz.prog 67 #[.int .i64 t, .int .i64 v] w fun e w' => e = .returned (.bool (kIn t v)) ∧ w = w' := by
  by_cases h : 1 ≤ t ∧ t ≤ 6
  · have hr := kRight_yes h
    go_enter Tryz.func67, Tryz.ntmps67
    go_wp2_with (first | (go_at_call 89; refine (kind_Right _ _).mono ?_; rintro e w' ⟨rfl, rfl⟩) | (go_at_call 90; refine (kind_Wrap _ _ _).mono ?_; rintro e w' ⟨rfl, rfl⟩))
    go_ret
    exact ⟨ret_b (by rw [kIn_yes h]), rfl⟩
  · have hr := kRight_no h
    go_enter Tryz.func67, Tryz.ntmps67
    go_wp2_with (first | (go_at_call 89; refine (kind_Right _ _).mono ?_; rintro e w' ⟨rfl, rfl⟩))
    go_ret
    exact ⟨ret_b (by rw [kIn_no h]), rfl⟩
def kLow (t : Int) : Int := if t = 2 then -32768 else if t = 3 then -2147483648 else 0
theorem ref01_Low (t : Int) (w : World) : Calls Tryz.prog 38 #[.int .i64 t] w fun e w' => e = .returned (.int .i64 (kLow t)) ∧ w = w' := by
  by_cases h1 : t = 2
  · subst h1; go_enter Tryz.func38, Tryz.ntmps38; go_wp2; go_ret; exact ⟨ret_i64 rfl, rfl⟩
  by_cases h2 : t = 3
  · subst h2; go_enter Tryz.func38, Tryz.ntmps38; go_wp2; go_ret; exact ⟨ret_i64 rfl, rfl⟩
  have e2 : ((t : Int) == 2) = false := by simpa using h1
  have e3 : ((t : Int) == 3) = false := by simpa using h2
  go_enter Tryz.func38, Tryz.ntmps38; go_wp2; go_ret; exact ⟨ret_i64 (by simp [kLow, h1, h2]), rfl⟩
def kHigh (t : Int) : Int := if t = 1 then 1 else if t = 2 then 32767 else if t = 3 then 2147483647 else if t = 4 then 65535 else 4294967295
theorem ref01_High (t : Int) (w : World) : Calls Tryz.prog 39 #[.int .i64 t] w fun e w' => e = .returned (.int .i64 (kHigh t)) ∧ w = w' := by
  by_cases h1 : t = 1
  · subst h1; go_enter Tryz.func39, Tryz.ntmps39; go_wp2; go_ret; exact ⟨ret_i64 rfl, rfl⟩
  by_cases h2 : t = 2
  · subst h2; go_enter Tryz.func39, Tryz.ntmps39; go_wp2; go_ret; exact ⟨ret_i64 rfl, rfl⟩
  by_cases h3 : t = 3
  · subst h3; go_enter Tryz.func39, Tryz.ntmps39; go_wp2; go_ret; exact ⟨ret_i64 rfl, rfl⟩
  by_cases h4 : t = 4
  · subst h4; go_enter Tryz.func39, Tryz.ntmps39; go_wp2; go_ret; exact ⟨ret_i64 rfl, rfl⟩
  have e1 : ((t : Int) == 1) = false := by simpa using h1
  have e2 : ((t : Int) == 2) = false := by simpa using h2
  have e3 : ((t : Int) == 3) = false := by simpa using h3
  have e4 : ((t : Int) == 4) = false := by simpa using h4
  go_enter Tryz.func39, Tryz.ntmps39; go_wp2; go_ret; exact ⟨ret_i64 (by simp [kHigh, h1, h2, h3, h4]), rfl⟩
def kFind (s : ByteArray) : Int :=
  if ([66, 79, 79, 76] == s.toList) = true then 1 else if ([73, 78, 84] == s.toList) = true then 2 else if ([68, 73, 78, 84] == s.toList) = true then 3
  else if ([87, 79, 82, 68] == s.toList) = true then 4 else if ([68, 87, 79, 82, 68] == s.toList) = true then 5 else if ([84, 73, 77, 69] == s.toList) = true then 6 else 0
def kBits (t : Int) : Int := if t = 1 then 1 else if t = 2 then 16 else if t = 3 then 32 else if t = 4 then 16 else if t = 5 then 32 else if t = 6 then 64 else 0
theorem kBits_no {t : Int} (h : ¬ (1 ≤ t ∧ t ≤ 6)) : kBits t = 0 := by
  unfold kBits
  rw [if_neg (show ¬ t = 1 by omega), if_neg (show ¬ t = 2 by omega), if_neg (show ¬ t = 3 by omega), if_neg (show ¬ t = 4 by omega), if_neg (show ¬ t = 5 by omega), if_neg (show ¬ t = 6 by omega)]
theorem kWrap_in {t v : Int} (h : 1 ≤ t ∧ t ≤ 5) : (kWrap t v == v) = decide (kLow t ≤ v ∧ v ≤ kHigh t) := by
  rw [Bool.eq_iff_iff]
  simp only [beq_iff_eq, decide_eq_true_eq]
  obtain rfl | rfl | rfl | rfl | rfl : t = 1 ∨ t = 2 ∨ t = 3 ∨ t = 4 ∨ t = 5 := by omega
  · rw [kWrap_1]; show _ ↔ (0 : Int) ≤ v ∧ v ≤ 1; by_cases h0 : v = 0 <;> simp [h0] <;> omega
  · rw [kWrap_2]; show _ ↔ (-32768 : Int) ≤ v ∧ v ≤ 32767; omega
  · rw [kWrap_3]; show _ ↔ (-2147483648 : Int) ≤ v ∧ v ≤ 2147483647; omega
  · rw [kWrap_4]; show _ ↔ (0 : Int) ≤ v ∧ v ≤ 65535; omega
  · rw [kWrap_5]; show _ ↔ (0 : Int) ≤ v ∧ v ≤ 4294967295; omega
theorem ref01_In (t v : Int) (w : World) : Calls Tryz.prog 24 #[.int .i64 t, .int .i64 v] w fun e w' => e = .returned (.bool (kIn t v)) ∧ w = w' := by
  by_cases h6 : t = 6
  · subst h6
    go_enter Tryz.func24, Tryz.ntmps24
    go_wp2
    go_ret
    exact ⟨ret_b (by rw [kIn_yes (by omega), kWrap_6]; simp), rfl⟩
  have e6 : ((t : Int) == 6) = false := by simpa using h6
  by_cases h : 1 ≤ t ∧ t ≤ 6
  · have hr := kRight_yes h
    have hk : kIn t v = decide (kLow t ≤ v ∧ v ≤ kHigh t) := by rw [kIn_yes h, kWrap_in (by omega)]
    have Hk := Lib.hid hk
    clear hk
    by_cases h1 : kLow t ≤ v
    · by_cases h2 : v ≤ kHigh t
      all_goals
        go_enter Tryz.func24, Tryz.ntmps24
        go_wp2_with (first | (go_at_call 23; refine (ref01_Right _ _).mono ?_; rintro e w' ⟨rfl, rfl⟩) | (go_at_call 38; refine (ref01_Low _ _).mono ?_; rintro e w' ⟨rfl, rfl⟩) | (go_at_call 39; refine (ref01_High _ _).mono ?_; rintro e w' ⟨rfl, rfl⟩))
        go_ret
        exact ⟨ret_b (by rw [Hk.out]; simp; omega), rfl⟩
    · go_enter Tryz.func24, Tryz.ntmps24
      go_wp2_with (first | (go_at_call 23; refine (ref01_Right _ _).mono ?_; rintro e w' ⟨rfl, rfl⟩) | (go_at_call 38; refine (ref01_Low _ _).mono ?_; rintro e w' ⟨rfl, rfl⟩) | (go_at_call 39; refine (ref01_High _ _).mono ?_; rintro e w' ⟨rfl, rfl⟩))
      go_ret
      exact ⟨ret_b (by rw [Hk.out]; simp; omega), rfl⟩
  · have hr := kRight_no h
    go_enter Tryz.func24, Tryz.ntmps24
    go_wp2_with (go_at_call 23; refine (ref01_Right _ _).mono ?_; rintro e w' ⟨rfl, rfl⟩)
    go_ret
    exact ⟨ret_b (by rw [kIn_no h]), rfl⟩
end Go.Proofs.YtefejcofmopjfaaGreatDoor
