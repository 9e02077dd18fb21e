/- Layer 12: the tables of op, and its small functions. -/
import Derived.Test.YtefejcofmopjfaaGreatDoorMore
import Derived.Test.YtefejcofmopjfaaGreatDoorMoreB
import Derived.WalkKit
import Derived.WalkSpells
import Derived.WalkLawsBesides
import Derived.Deep.QuietTactic
import Derived.BigQuiet
import Derived.WalkSmall
import Derived.IntWalk
namespace Go.Proofs.YtefejcofmopjfaaGreatDoor
open Go.RowKit
set_option linter.unusedSimpArgs false
set_option linter.unusedVariables false
def wordsV : List Value := [.string ⟨#[110, 111, 112]⟩, .string ⟨#[99, 111, 110, 115, 116]⟩, .string ⟨#[108, 111, 97, 100]⟩, .string ⟨#[115, 116, 111, 114, 101]⟩, .string ⟨#[103, 101, 116]⟩, .string ⟨#[112, 117, 116]⟩, .string ⟨#[105, 116, 101, 109]⟩, .string ⟨#[107, 101, 101, 112]⟩, .string ⟨#[97, 100, 100]⟩, .string ⟨#[115, 117, 98]⟩, .string ⟨#[109, 117, 108]⟩, .string ⟨#[100, 105, 118]⟩, .string ⟨#[109, 111, 100]⟩, .string ⟨#[110, 101, 103]⟩, .string ⟨#[97, 110, 100]⟩, .string ⟨#[111, 114]⟩, .string ⟨#[120, 111, 114]⟩, .string ⟨#[110, 111, 116]⟩, .string ⟨#[115, 104, 108]⟩, .string ⟨#[115, 104, 114]⟩, .string ⟨#[101, 113]⟩, .string ⟨#[110, 101]⟩, .string ⟨#[108, 116]⟩, .string ⟨#[108, 101]⟩, .string ⟨#[103, 116]⟩, .string ⟨#[103, 101]⟩, .string ⟨#[99, 111, 110, 118]⟩, .string ⟨#[100, 117, 112]⟩, .string ⟨#[112, 111, 112]⟩, .string ⟨#[115, 119, 97, 112]⟩, .string ⟨#[106, 117, 109, 112]⟩, .string ⟨#[102, 97, 108, 115, 101]⟩, .string ⟨#[115, 119, 105, 116, 99, 104]⟩, .string ⟨#[99, 97, 108, 108]⟩, .string ⟨#[114, 101, 116]⟩, .string ⟨#[115, 101, 116]⟩, .string ⟨#[114, 117, 110]⟩, .string ⟨#[111, 117, 116]⟩]
def shapesV : List Value := [.int .i64 10, .int .i64 10, .int .i64 1, .int .i64 0, .int .i64 2, .int .i64 0, .int .i64 2, .int .i64 0, .int .i64 3, .int .i64 0, .int .i64 3, .int .i64 0, .int .i64 2, .int .i64 0, .int .i64 2, .int .i64 0, .int .i64 0, .int .i64 0, .int .i64 0, .int .i64 0, .int .i64 0, .int .i64 0, .int .i64 0, .int .i64 0, .int .i64 0, .int .i64 0, .int .i64 0, .int .i64 0, .int .i64 0, .int .i64 0, .int .i64 0, .int .i64 0, .int .i64 0, .int .i64 0, .int .i64 0, .int .i64 0, .int .i64 0, .int .i64 0, .int .i64 0, .int .i64 0, .int .i64 0, .int .i64 0, .int .i64 0, .int .i64 0, .int .i64 0, .int .i64 0, .int .i64 0, .int .i64 0, .int .i64 0, .int .i64 0, .int .i64 0, .int .i64 0, .int .i64 4, .int .i64 4, .int .i64 0, .int .i64 0, .int .i64 0, .int .i64 0, .int .i64 0, .int .i64 0, .int .i64 5, .int .i64 10, .int .i64 5, .int .i64 10, .int .i64 6, .int .i64 10, .int .i64 7, .int .i64 0, .int .i64 0, .int .i64 0, .int .i64 8, .int .i64 9, .int .i64 8, .int .i64 0, .int .i64 8, .int .i64 9]
def wL : List (List UInt8) := [[110, 111, 112], [99, 111, 110, 115, 116], [108, 111, 97, 100], [115, 116, 111, 114, 101], [103, 101, 116], [112, 117, 116], [105, 116, 101, 109], [107, 101, 101, 112], [97, 100, 100], [115, 117, 98], [109, 117, 108], [100, 105, 118], [109, 111, 100], [110, 101, 103], [97, 110, 100], [111, 114], [120, 111, 114], [110, 111, 116], [115, 104, 108], [115, 104, 114], [101, 113], [110, 101], [108, 116], [108, 101], [103, 116], [103, 101], [99, 111, 110, 118], [100, 117, 112], [112, 111, 112], [115, 119, 97, 112], [106, 117, 109, 112], [102, 97, 108, 115, 101], [115, 119, 105, 116, 99, 104], [99, 97, 108, 108], [114, 101, 116], [115, 101, 116], [114, 117, 110], [111, 117, 116]]
def aL : List Int := [10, 1, 2, 2, 3, 3, 2, 2, 4, 4, 4, 4, 4, 4, 4, 4, 4, 4, 4, 4, 4, 4, 4, 4, 4, 4, 4, 0, 0, 0, 5, 5, 6, 7, 0, 8, 8, 8]
def bL : List Int := [10, 0, 0, 0, 0, 0, 0, 0, 0, 0, 0, 0, 0, 0, 0, 0, 0, 0, 0, 0, 0, 0, 0, 0, 0, 0, 4, 0, 0, 0, 10, 10, 10, 0, 0, 9, 0, 9]
structure STab (w : World) : Prop where
  sh : ∀ i : Nat, w.cell? ⟨1, i, none⟩ = shapesV[i]?
  big1 : 1 < w.heap.size
theorem STab.below {w w' : World} (h : STab w) (hb : Below w.heap.size w w') : STab w' :=
  ⟨fun i => (hb.cell h.big1).trans (h.sh i), Nat.lt_of_lt_of_le h.big1 hb.size⟩
def oIs (n : Int) : Bool := decide (0 ≤ n ∧ n ≤ 37)
theorem oIs_yes {n : Int} (h : 0 ≤ n ∧ n ≤ 37) : oIs n = true := decide_eq_true h
theorem oIs_no {n : Int} (h : ¬ (0 ≤ n ∧ n ≤ 37)) : oIs n = false := decide_eq_false h
/-- what an operation has at A and at B -/
def oA (n : Int) : Int := if 0 ≤ n then aL.getD n.toNat 0 else 0
def oB (n : Int) : Int := if 0 ≤ n then bL.getD n.toNat 0 else 0
def oW (n : Int) : ByteArray := if 0 ≤ n then ⟨(wL.getD n.toNat []).toArray⟩ else ⟨#[]⟩
theorem o_no {n : Int} (h : ¬ (0 ≤ n ∧ n ≤ 37)) : oA n = 0 ∧ oB n = 0 ∧ oW n = ⟨#[]⟩ := by
  unfold oA oB oW
  by_cases h0 : 0 ≤ n
  · rw [if_pos h0, if_pos h0, if_pos h0]
    have e1 : aL.length = 38 := rfl
    have e2 : bL.length = 38 := rfl
    have e3 : wL.length = 38 := rfl
    simp only [List.getD, List.getElem?_eq_none (show aL.length ≤ n.toNat by omega), List.getElem?_eq_none (show bL.length ≤ n.toNat by omega), List.getElem?_eq_none (show wL.length ≤ n.toNat by omega)]
    exact ⟨rfl, rfl, rfl⟩
  · rw [if_neg h0, if_neg h0, if_neg h0]; exact ⟨rfl, rfl, rfl⟩
theorem o38 {n : Int} (h : 0 ≤ n ∧ n ≤ 37) : n = 0 ∨ n = 1 ∨ n = 2 ∨ n = 3 ∨ n = 4 ∨ n = 5 ∨ n = 6 ∨ n = 7 ∨ n = 8 ∨ n = 9 ∨ n = 10 ∨ n = 11 ∨ n = 12 ∨ n = 13 ∨ n = 14 ∨ n = 15 ∨ n = 16 ∨ n = 17 ∨ n = 18 ∨ n = 19 ∨ n = 20 ∨ n = 21 ∨ n = 22 ∨ n = 23 ∨ n = 24 ∨ n = 25 ∨ n = 26 ∨ n = 27 ∨ n = 28 ∨ n = 29 ∨ n = 30 ∨ n = 31 ∨ n = 32 ∨ n = 33 ∨ n = 34 ∨ n = 35 ∨ n = 36 ∨ n = 37 := by omega
theorem op_Is (n : Int) (w : World) : Calls Tryz.prog 111 #[.int .i64 n] w fun e w' => e = .returned (.bool (oIs n)) ∧ w = w' := by
  by_cases h1 : 0 ≤ n
  · by_cases h2 : n ≤ 37
    · go_enter Tryz.func111, Tryz.ntmps111
      go_wp2
      go_ret
      exact ⟨by rw [oIs_yes ⟨h1, h2⟩]; rfl, rfl⟩
    · go_enter Tryz.func111, Tryz.ntmps111
      go_wp2
      go_ret
      exact ⟨by rw [oIs_no (by omega)]; rfl, rfl⟩
  · go_enter Tryz.func111, Tryz.ntmps111
    go_wp2
    go_ret
    exact ⟨by rw [oIs_no (by omega)]; rfl, rfl⟩
theorem STab.sk {w : World} (h : STab w) {k : Nat} (hk : k ≤ 37) (hn : ¬ (8 ≤ k ∧ k < 26)) : w.cell? ⟨1, k * 2, none⟩ = some (.int .i64 (oA k)) ∧ w.cell? ⟨1, k * 2 + 1, none⟩ = some (.int .i64 (oB k)) := by
  rw [h.sh (k * 2), h.sh (k * 2 + 1)]
  have hall : ∀ m : Fin 38, ¬ (8 ≤ m.1 ∧ m.1 < 26) → shapesV[m.1 * 2]? = some (.int .i64 (oA (m.1 : Int))) ∧ shapesV[m.1 * 2 + 1]? = some (.int .i64 (oB (m.1 : Int))) := by
    intro m
    have := m.2
    obtain h | h | h | h | h | h | h | h | h | h | h | h | h | h | h | h | h | h | h | h | h | h | h | h | h | h | h | h | h | h | h | h | h | h | h | h | h | h := o38 (n := (m.1 : Int)) (by omega)
    all_goals
      have e : m.1 = (m.1 : Int).toNat := by omega
      rw [h, e, h]
      intro hq
      first | exact ⟨rfl, rfl⟩ | (exfalso; exact hq (by decide))
  exact hall ⟨k, by omega⟩ hn
theorem o_mid {k : Nat} (h : 8 ≤ k ∧ k < 26) : oA k = 4 ∧ oB k = 0 := by
  have hall : ∀ m : Fin 38, (8 ≤ m.1 ∧ m.1 < 26) → oA (m.1 : Int) = 4 ∧ oB (m.1 : Int) = 0 := by decide +kernel
  exact hall ⟨k, by omega⟩ h
set_option maxHeartbeats 1000000 in
theorem op_ShapeS (n : Int) (w : World) (hT : STab w) : Calls Tryz.prog 110 #[.int .i64 n] w fun e w' => e = .returned (.tuple #[.int .i64 (oA n), .int .i64 (oB n)]) ∧ ∃ m, w' = w.drewN m := by
  by_cases h : 0 ≤ n ∧ n ≤ 37
  · have hr := oIs_yes h
    obtain ⟨k, rfl⟩ := Int.eq_ofNat_of_zero_le h.1
    have hk : k ≤ 37 := by omega
    by_cases hm : 8 ≤ k ∧ k < 26
    · have e1 := Lib.hid (o_mid hm)
      have g1 : (8 ≤ (k : Int)) := by omega
      have g2 : ((k : Int) < 26) := by omega
      clear hT h hm
      go_enter Tryz.func110, Tryz.ntmps110
      go_wp2_with fail
      refine (op_Is _ _).mono ?_; rintro e w' ⟨rfl, rfl⟩
      go_wp2_with fail
      go_returns
      exact ⟨by rw [e1.out.1, e1.out.2]; rfl, 0, rfl⟩
    · obtain ⟨c0, c1⟩ := hT.sk hk hm
      have ec0 : w.cell? ⟨1, k * 2 + 0 * 1, none⟩ = some (.int .i64 (oA k)) := c0
      clear hT h
      generalize oA (k : Int) = x at *
      generalize oB (k : Int) = y at *
      by_cases h8 : 8 ≤ k
      · have g1 : (8 ≤ (k : Int)) := by omega
        have g2 : ¬ ((k : Int) < 26) := by omega
        clear hm
        go_enter Tryz.func110, Tryz.ntmps110
        go_wp2_with fail
        refine (op_Is _ _).mono ?_; rintro e w' ⟨rfl, rfl⟩
        go_wp2_with fail
        go_quiet (fail); go_wp2_with fail
        go_returns
        exact ⟨rfl, _, rfl⟩
      · have g1 : ¬ (8 ≤ (k : Int)) := by omega
        clear hm
        go_enter Tryz.func110, Tryz.ntmps110
        go_wp2_with fail
        refine (op_Is _ _).mono ?_; rintro e w' ⟨rfl, rfl⟩
        go_wp2_with fail
        go_quiet (fail); go_wp2_with fail
        go_returns
        exact ⟨rfl, _, rfl⟩
  · have hr := oIs_no h
    have e1 := Lib.hid (o_no h)
    clear hT h
    go_enter Tryz.func110, Tryz.ntmps110
    go_wp2_with fail
    refine (op_Is _ _).mono ?_; rintro e w' ⟨rfl, rfl⟩
    go_wp2_with fail
    go_returns
    exact ⟨by rw [e1.out.1, e1.out.2.1]; rfl, 0, rfl⟩
set_option maxHeartbeats 4000000 in
theorem ref12_Shape (n : Int) (w : World) : Calls Tryz.prog 87 #[.int .i64 n] w fun e w' => e = .returned (.tuple #[.int .i64 (oA n), .int .i64 (oB n)]) ∧ Below w.heap.size w w' := by
  by_cases h : 0 ≤ n ∧ n ≤ 37
  · rcases o38 h with h | h | h | h | h | h | h | h | h | h | h | h | h | h | h | h | h | h | h | h | h | h | h | h | h | h | h | h | h | h | h | h | h | h | h | h | h | h
    all_goals
      subst h
      go_enter Tryz.func87, Tryz.ntmps87
      go_wp2
      (first | (go_returns; exact ⟨rfl, by (repeat' (first | (with_reducible exact Below.refl _ _) | (with_reducible assumption) | (with_reducible refine below_drewN ?_ _) | (with_reducible refine Below.alloc ?_ ?_ _) | (with_reducible refine Below.drew ?_) | (with_reducible refine Below.setCell ?_ ?_ _) | go_size))⟩) | (go_quiet (fail); go_wp2_with fail; go_returns; exact ⟨rfl, by (repeat' (first | (with_reducible exact Below.refl _ _) | (with_reducible assumption) | (with_reducible refine below_drewN ?_ _) | (with_reducible refine Below.alloc ?_ ?_ _) | (with_reducible refine Below.drew ?_) | (with_reducible refine Below.setCell ?_ ?_ _) | go_size))⟩))
  · by_cases h0 : n < 0
    · go_enter Tryz.func87, Tryz.ntmps87
      go_wp2
      go_returns
      exact ⟨by rw [(o_no h).1, (o_no h).2.1]; rfl, Below.refl _ _⟩
    · have h37 : 37 < n := by omega
      have q := o_no h
      have Q := Lib.hid q
      clear h h0 q
      go_enter Tryz.func87, Tryz.ntmps87
      go_wp2
      go_returns
      exact ⟨by rw [Q.out.1, Q.out.2.1]; rfl, Below.refl _ _⟩
end Go.Proofs.YtefejcofmopjfaaGreatDoor
