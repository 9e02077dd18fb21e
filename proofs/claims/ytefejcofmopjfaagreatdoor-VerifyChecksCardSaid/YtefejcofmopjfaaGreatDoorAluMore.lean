/- Contracts of alu (layer 7) and of its answer: what operations make of values. -/
import Derived.Test.YtefejcofmopjfaaGreatDoorAlu
import Derived.WalkSpells
import Derived.WalkLawsBesides
namespace Go.Proofs.YtefejcofmopjfaaGreatDoor
open Go.RowKit
set_option maxHeartbeats 4000000 in
theorem ref07_Goes (op t : Int) (w : World) : Calls Tryz.prog 62 #[.int .i64 op, .int .i64 t] w fun e w' => e = .returned (.bool (aGoes op t)) ∧ w = w' := by
  by_cases ht1 : t < 1
  · have ha := Lib.hid (aGoes_t (op := op) (show ¬ (1 ≤ t ∧ t ≤ 6) by omega))
    go_enter Tryz.func62, Tryz.ntmps62; go_wp2; go_ret; exact ⟨by rw [ha.out]; rfl, rfl⟩
  by_cases ht2 : 6 < t
  · have ha := Lib.hid (aGoes_t (op := op) (show ¬ (1 ≤ t ∧ t ≤ 6) by omega))
    go_enter Tryz.func62, Tryz.ntmps62; go_wp2; go_ret; exact ⟨by rw [ha.out]; rfl, rfl⟩
  by_cases h : op < 8 ∨ 25 < op
  · have ha := Lib.hid (aGoes_op (t := t) h)
    have e8 : ((op : Int) == 8) = false := by simp; omega
    have e9 : ((op : Int) == 9) = false := by simp; omega
    have e10 : ((op : Int) == 10) = false := by simp; omega
    have e11 : ((op : Int) == 11) = false := by simp; omega
    have e12 : ((op : Int) == 12) = false := by simp; omega
    have e13 : ((op : Int) == 13) = false := by simp; omega
    have e14 : ((op : Int) == 14) = false := by simp; omega
    have e15 : ((op : Int) == 15) = false := by simp; omega
    have e16 : ((op : Int) == 16) = false := by simp; omega
    have e17 : ((op : Int) == 17) = false := by simp; omega
    have e18 : ((op : Int) == 18) = false := by simp; omega
    have e19 : ((op : Int) == 19) = false := by simp; omega
    have e20 : ((op : Int) == 20) = false := by simp; omega
    have e21 : ((op : Int) == 21) = false := by simp; omega
    have e22 : ((op : Int) == 22) = false := by simp; omega
    have e23 : ((op : Int) == 23) = false := by simp; omega
    have e24 : ((op : Int) == 24) = false := by simp; omega
    have e25 : ((op : Int) == 25) = false := by simp; omega
    clear h
    go_enter Tryz.func62, Tryz.ntmps62; go_wp2; go_ret; exact ⟨by rw [ha.out]; rfl, rfl⟩
  · obtain rfl | rfl | rfl | rfl | rfl | rfl : t = 1 ∨ t = 2 ∨ t = 3 ∨ t = 4 ∨ t = 5 ∨ t = 6 := by omega
    all_goals clear ht1 ht2
    all_goals
      obtain rfl | rfl | rfl | rfl | rfl | rfl | rfl | rfl | rfl | rfl | rfl | rfl | rfl | rfl | rfl | rfl | rfl | rfl : op = 8 ∨ op = 9 ∨ op = 10 ∨ op = 11 ∨ op = 12 ∨ op = 13 ∨ op = 14 ∨ op = 15 ∨ op = 16 ∨ op = 17 ∨ op = 18 ∨ op = 19 ∨ op = 20 ∨ op = 21 ∨ op = 22 ∨ op = 23 ∨ op = 24 ∨ op = 25 := by omega
    all_goals
      clear h
      go_enter Tryz.func62, Tryz.ntmps62; go_wp2; go_ret; exact ⟨rfl, rfl⟩
def aBinary (op : Int) : Bool := decide (8 ≤ op ∧ op ≤ 25 ∧ op ≠ 13 ∧ op ≠ 17)
theorem alu_Binary (op : Int) (w : World) : Calls Tryz.prog 137 #[.int .i64 op] w fun e w' => e = .returned (.bool (aBinary op)) ∧ w = w' := by
  by_cases h1 : op < 8
  · have ha := Lib.hid (show aBinary op = false by unfold aBinary; apply decide_eq_false; omega)
    go_enter Tryz.func137, Tryz.ntmps137; go_wp2; go_ret; exact ⟨by rw [ha.out]; rfl, rfl⟩
  by_cases h2 : 25 < op
  · have ha := Lib.hid (show aBinary op = false by unfold aBinary; apply decide_eq_false; omega)
    go_enter Tryz.func137, Tryz.ntmps137; go_wp2; go_ret; exact ⟨by rw [ha.out]; rfl, rfl⟩
  by_cases h3 : op = 13
  · subst h3; go_enter Tryz.func137, Tryz.ntmps137; go_wp2; go_ret; exact ⟨rfl, rfl⟩
  by_cases h4 : op = 17
  · subst h4; go_enter Tryz.func137, Tryz.ntmps137; go_wp2; go_ret; exact ⟨rfl, rfl⟩
  have ha := Lib.hid (show aBinary op = true by unfold aBinary; apply decide_eq_true; omega)
  have e13 : ((op : Int) != 13) = true := by simp; omega
  have e17 : ((op : Int) != 17) = true := by simp; omega
  go_enter Tryz.func137, Tryz.ntmps137; go_wp2; go_ret; exact ⟨by rw [ha.out]; rfl, rfl⟩
def aResult (op t : Int) : Int := if aGoes op t = true then (if 20 ≤ op then 1 else t) else 0
theorem alu_Result (op t : Int) (w : World) (hg : AGoes w) : Calls Tryz.prog 138 #[.int .i64 op, .int .i64 t] w fun e w' => e = .returned (.int .i64 (aResult op t)) ∧ w = w' := by
  cases h : aGoes op t with
  | false =>
    have Ha := Lib.hid (show aResult op t = 0 by unfold aResult; rw [h]; rfl)
    go_enter Tryz.func138, Tryz.ntmps138
    go_wp2_with (go_at_call 113; refine (alu_Goes _ _ _ hg).mono ?_; rintro e w' ⟨rfl, rfl⟩)
    go_ret; exact ⟨ret_i64 (by rw [Ha.out]), rfl⟩
  | true =>
    by_cases h2 : 20 ≤ op
    · have Ha := Lib.hid (show aResult op t = 1 by unfold aResult; rw [h, if_pos rfl, if_pos h2])
      go_enter Tryz.func138, Tryz.ntmps138
      go_wp2_with (go_at_call 113; refine (alu_Goes _ _ _ hg).mono ?_; rintro e w' ⟨rfl, rfl⟩)
      go_ret; exact ⟨ret_i64 (by rw [Ha.out]), rfl⟩
    · have Ha := Lib.hid (show aResult op t = t by unfold aResult; rw [h, if_pos rfl, if_neg h2])
      go_enter Tryz.func138, Tryz.ntmps138
      go_wp2_with (go_at_call 113; refine (alu_Goes _ _ _ hg).mono ?_; rintro e w' ⟨rfl, rfl⟩)
      go_ret; exact ⟨ret_i64 (by rw [Ha.out]), rfl⟩
theorem ref07_Result (op t : Int) (w : World) : Calls Tryz.prog 65 #[.int .i64 op, .int .i64 t] w fun e w' => e = .returned (.int .i64 (aResult op t)) ∧ w = w' := by
  cases h : aGoes op t with
  | false =>
    have Ha := Lib.hid (show aResult op t = 0 by unfold aResult; rw [h]; rfl)
    go_enter Tryz.func65, Tryz.ntmps65
    go_wp2_with (go_at_call 62; refine (ref07_Goes _ _ _).mono ?_; rintro e w' ⟨rfl, rfl⟩)
    go_ret; exact ⟨ret_i64 (by rw [Ha.out]), rfl⟩
  | true =>
    by_cases h2 : 20 ≤ op
    · have Ha := Lib.hid (show aResult op t = 1 by unfold aResult; rw [h, if_pos rfl, if_pos h2])
      go_enter Tryz.func65, Tryz.ntmps65
      go_wp2_with (go_at_call 62; refine (ref07_Goes _ _ _).mono ?_; rintro e w' ⟨rfl, rfl⟩)
      go_ret; exact ⟨ret_i64 (by rw [Ha.out]), rfl⟩
    · have Ha := Lib.hid (show aResult op t = t by unfold aResult; rw [h, if_pos rfl, if_neg h2])
      go_enter Tryz.func65, Tryz.ntmps65
      go_wp2_with (go_at_call 62; refine (ref07_Goes _ _ _).mono ?_; rintro e w' ⟨rfl, rfl⟩)
      go_ret; exact ⟨ret_i64 (by rw [Ha.out]), rfl⟩
def aHolds (op a b : Int) : Bool :=
  if op = 20 then a == b else if op = 21 then a != b else if op = 22 then decide (a < b) else if op = 23 then decide (a ≤ b) else if op = 24 then decide (b < a) else decide (b ≤ a)
def aNum (b : Bool) : Int := if b = true then 1 else 0
def aSh (b k : Int) : Nat := (min (max b 0) k).toNat
def aReck (op k a b : Int) : Int :=
  if op = 8 then wrap64 (a + b) else if op = 9 then wrap64 (a - b) else if op = 10 then wrap64 (a * b) else if op = 11 then wrap64 (a.tdiv b) else if op = 12 then a.tmod b
  else if op = 14 then bits .and .i64 a b else if op = 15 then bits .or .i64 a b else if op = 16 then bits .xor .i64 a b else if op = 18 then wrap64 (a * 2 ^ aSh b k) else a / 2 ^ aSh b k
end Go.Proofs.YtefejcofmopjfaaGreatDoor
