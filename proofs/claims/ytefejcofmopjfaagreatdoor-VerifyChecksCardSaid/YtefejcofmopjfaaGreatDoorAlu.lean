/- Contracts of alu (layer 7) and of its answer: with which types operations go. -/
import Derived.Test.YtefejcofmopjfaaGreatDoorKind
import Derived.Test.YtefejcofmopjfaaGreatDoorRow
import Derived.Laws.BitsAllLaws
namespace Go.Proofs.YtefejcofmopjfaaGreatDoor
open Go.RowKit
def aGoes (op t : Int) : Bool := decide (1 ≤ t ∧ t ≤ 6 ∧
  ((op = 8 ∨ op = 9 ∨ op = 13) ∧ (t = 2 ∨ t = 3 ∨ t = 6) ∨ (op = 10 ∨ op = 11 ∨ op = 12) ∧ (t = 2 ∨ t = 3) ∨ (op = 14 ∨ op = 15 ∨ op = 16 ∨ op = 17) ∧ (t = 1 ∨ t = 4 ∨ t = 5) ∨
   (op = 18 ∨ op = 19) ∧ (t = 4 ∨ t = 5) ∨ (op = 20 ∨ op = 21) ∨ (op = 22 ∨ op = 23 ∨ op = 24 ∨ op = 25) ∧ t ≠ 1))
theorem aGoes_op {op t : Int} (h : op < 8 ∨ 25 < op) : aGoes op t = false := by unfold aGoes; apply decide_eq_false; omega
theorem aGoes_t {op t : Int} (h : ¬ (1 ≤ t ∧ t ≤ 6)) : aGoes op t = false := by unfold aGoes; apply decide_eq_false; omega
theorem i64_and1 (n : Int) (h0 : 0 ≤ n) (h1 : n < 1000) : bits .and .i64 n 1 = n % 2 := by
  obtain ⟨k, rfl⟩ : ∃ k : Nat, n = k := ⟨n.toNat, by omega⟩
  have e : (BitVec.ofInt 64 (k : Int)).toNat = k := by rw [BitVec.ofInt_natCast, BitVec.toNat_ofNat]; exact Nat.mod_eq_of_lt (by omega)
  have e1 : (BitVec.ofInt 64 (1 : Int)).toNat = 1 := by decide
  show IntKind.i64.wrap ((BitVec.ofInt 64 (k : Int) &&& BitVec.ofInt 64 1).toNat : Int) = _
  rw [BitVec.toNat_and, e, e1, IntKind.wrap_i64, Nat.and_one_is_mod]
  omega
structure AGoes (w : World) : Prop where
  cell : ∀ i, i < 18 → w.cell? ⟨2, i, none⟩ = ([Value.int .i64 76, .int .i64 76, .int .i64 12, .int .i64 12, .int .i64 12, .int .i64 76, .int .i64 50, .int .i64 50, .int .i64 50, .int .i64 50, .int .i64 48, .int .i64 48, .int .i64 126, .int .i64 126, .int .i64 124, .int .i64 124, .int .i64 124, .int .i64 124] : List Value)[i]?
  big : 2 < w.heap.size
theorem AGoes.below {w w' : World} (h : AGoes w) (hb : Below w.heap.size w w') : AGoes w' :=
  ⟨fun i hi => (hb.cell (p := ⟨2, i, none⟩) h.big).trans (h.cell i hi), Nat.lt_of_lt_of_le h.big hb.size⟩
set_option maxHeartbeats 4000000 in
theorem alu_Goes (op t : Int) (w : World) (hg : AGoes w) : Calls Tryz.prog 113 #[.int .i64 op, .int .i64 t] w fun e w' => e = .returned (.bool (aGoes op t)) ∧ w = w' := by
  by_cases h1 : op < 8
  · have ha := Lib.hid (aGoes_op (t := t) (Or.inl h1))
    go_enter Tryz.func113, Tryz.ntmps113; go_wp2; go_ret; exact ⟨by rw [ha.out]; rfl, rfl⟩
  by_cases h2 : 25 < op
  · have ha := Lib.hid (aGoes_op (t := t) (Or.inr h2))
    go_enter Tryz.func113, Tryz.ntmps113; go_wp2; go_ret; exact ⟨by rw [ha.out]; rfl, rfl⟩
  by_cases h : 1 ≤ t ∧ t ≤ 6
  · have hr := kRight_yes h
    have hb := i64_and1
    have key : ∀ k : Nat, k < 18 → op = 8 + (k : Int) → Calls Tryz.prog 113 #[.int .i64 op, .int .i64 t] w fun e w' => e = .returned (.bool (aGoes op t)) ∧ w = w' := by
      intro k hk hop
      have hc := hg.cell k hk
      clear hg h1 h2
      subst hop
      obtain rfl | rfl | rfl | rfl | rfl | rfl | rfl | rfl | rfl | rfl | rfl | rfl | rfl | rfl | rfl | rfl | rfl | rfl : k = 0 ∨ k = 1 ∨ k = 2 ∨ k = 3 ∨ k = 4 ∨ k = 5 ∨ k = 6 ∨ k = 7 ∨ k = 8 ∨ k = 9 ∨ k = 10 ∨ k = 11 ∨ k = 12 ∨ k = 13 ∨ k = 14 ∨ k = 15 ∨ k = 16 ∨ k = 17 := by omega
      all_goals
        obtain rfl | rfl | rfl | rfl | rfl | rfl : t = 1 ∨ t = 2 ∨ t = 3 ∨ t = 4 ∨ t = 5 ∨ t = 6 := by omega
      all_goals
        simp only [List.getElem?_cons_zero, List.getElem?_cons_succ] at hc
        go_enter Tryz.func113, Tryz.ntmps113
        go_wp2_with (go_at_call 89; refine (kind_Right _ _).mono ?_; rintro e w' ⟨rfl, rfl⟩)
        go_ret
        exact ⟨rfl, rfl⟩
    exact key (op - 8).toNat (by omega) (by omega)
  · have hr := kRight_no h
    have ha := Lib.hid (aGoes_t (op := op) h)
    go_enter Tryz.func113, Tryz.ntmps113
    go_wp2_with (go_at_call 89; refine (kind_Right _ _).mono ?_; rintro e w' ⟨rfl, rfl⟩)
    go_ret
    exact ⟨by rw [ha.out]; rfl, rfl⟩
end Go.Proofs.YtefejcofmopjfaaGreatDoor
