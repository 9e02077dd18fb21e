/- Layer 11: Field, and the answer's Fields. -/
import Derived.Test.YtefejcofmopjfaaGreatDoorBlock
import Derived.Test.YtefejcofmopjfaaGreatDoorKind
import Derived.Test.YtefejcofmopjfaaGreatDoorMoreB
import Derived.WalkSpells
import Derived.WalkLawsBesides
import Derived.Deep.QuietTactic
import Derived.BigQuiet
import Derived.Deep.RegionWith
import Derived.WalkSmall
import Derived.IntWalk

namespace Go.Proofs.YtefejcofmopjfaaGreatDoor
open Go.RowKit
set_option linter.unusedSimpArgs false
set_option linter.unusedVariables false
set_option maxHeartbeats 4000000 in
theorem block_Field (k i : Int) (w : World) (hT : BTab w) : Calls Tryz.prog 139 #[.int .i64 k, .int .i64 i] w fun e w' => e = .returned (.tuple #[.string (fldS k i), .int .i64 (fldT k i)]) ∧ Below w.heap.size w w' := by
  by_cases hi : 0 ≤ i ∧ i < ((bF k).length : Int)
  · have hk : 1 ≤ k ∧ k ≤ 8 := by
      by_cases h : 1 ≤ k ∧ k ≤ 8
      · exact h
      · rw [bF_no h] at hi; simp at hi; omega
    have hR := block_row k hk
    rcases k8 hk with h | h | h | h | h | h | h | h
    · subst h
      have hlen : ((bF 1).length : Int) = 4 := rfl
      rw [hlen] at hi
      rcases (show i = 0 ∨ i = 1 ∨ i = 2 ∨ i = 3 by omega) with h | h | h | h
      · subst h
        have c0 : w.cell? ⟨4, 0, none⟩ = some (.string ⟨#[73, 78]⟩) := hT.rw 0
        have c1 : w.cell? ⟨4, 1, none⟩ = some (.int .i64 1) := hT.rw 1
        go_enter Tryz.func139, Tryz.ntmps139
        go_wp2_with fail
        refine (block_Fields _ _ hT).mono ?_; rintro e w' ⟨rfl, rfl⟩
        go_wp2_with fail
        refine (hR _).mono ?_; rintro e w' ⟨rfl, rfl⟩
        rw [show bR 1 = 0 from rfl]
        go_wp2_with fail
        go_quiet (fail)
        go_wp2_with fail
        go_returns
        exact ⟨rfl, by (repeat' (first | (with_reducible exact Below.refl _ _) | (with_reducible assumption) | (with_reducible refine below_drewN ?_ _) | (with_reducible refine Below.alloc ?_ ?_ _) | (with_reducible refine Below.drew ?_) | (with_reducible refine Below.setCell ?_ ?_ _) | go_size))⟩
      · subst h
        have c0 : w.cell? ⟨4, 2, none⟩ = some (.string ⟨#[80, 84]⟩) := hT.rw 2
        have c1 : w.cell? ⟨4, 3, none⟩ = some (.int .i64 6) := hT.rw 3
        go_enter Tryz.func139, Tryz.ntmps139
        go_wp2_with fail
        refine (block_Fields _ _ hT).mono ?_; rintro e w' ⟨rfl, rfl⟩
        go_wp2_with fail
        refine (hR _).mono ?_; rintro e w' ⟨rfl, rfl⟩
        rw [show bR 1 = 0 from rfl]
        go_wp2_with fail
        go_quiet (fail)
        go_wp2_with fail
        go_returns
        exact ⟨rfl, by (repeat' (first | (with_reducible exact Below.refl _ _) | (with_reducible assumption) | (with_reducible refine below_drewN ?_ _) | (with_reducible refine Below.alloc ?_ ?_ _) | (with_reducible refine Below.drew ?_) | (with_reducible refine Below.setCell ?_ ?_ _) | go_size))⟩
      · subst h
        have c0 : w.cell? ⟨4, 4, none⟩ = some (.string ⟨#[81]⟩) := hT.rw 4
        have c1 : w.cell? ⟨4, 5, none⟩ = some (.int .i64 1) := hT.rw 5
        go_enter Tryz.func139, Tryz.ntmps139
        go_wp2_with fail
        refine (block_Fields _ _ hT).mono ?_; rintro e w' ⟨rfl, rfl⟩
        go_wp2_with fail
        refine (hR _).mono ?_; rintro e w' ⟨rfl, rfl⟩
        rw [show bR 1 = 0 from rfl]
        go_wp2_with fail
        go_quiet (fail)
        go_wp2_with fail
        go_returns
        exact ⟨rfl, by (repeat' (first | (with_reducible exact Below.refl _ _) | (with_reducible assumption) | (with_reducible refine below_drewN ?_ _) | (with_reducible refine Below.alloc ?_ ?_ _) | (with_reducible refine Below.drew ?_) | (with_reducible refine Below.setCell ?_ ?_ _) | go_size))⟩
      · subst h
        have c0 : w.cell? ⟨4, 6, none⟩ = some (.string ⟨#[69, 84]⟩) := hT.rw 6
        have c1 : w.cell? ⟨4, 7, none⟩ = some (.int .i64 6) := hT.rw 7
        go_enter Tryz.func139, Tryz.ntmps139
        go_wp2_with fail
        refine (block_Fields _ _ hT).mono ?_; rintro e w' ⟨rfl, rfl⟩
        go_wp2_with fail
        refine (hR _).mono ?_; rintro e w' ⟨rfl, rfl⟩
        rw [show bR 1 = 0 from rfl]
        go_wp2_with fail
        go_quiet (fail)
        go_wp2_with fail
        go_returns
        exact ⟨rfl, by (repeat' (first | (with_reducible exact Below.refl _ _) | (with_reducible assumption) | (with_reducible refine below_drewN ?_ _) | (with_reducible refine Below.alloc ?_ ?_ _) | (with_reducible refine Below.drew ?_) | (with_reducible refine Below.setCell ?_ ?_ _) | go_size))⟩
    · subst h
      have hlen : ((bF 2).length : Int) = 4 := rfl
      rw [hlen] at hi
      rcases (show i = 0 ∨ i = 1 ∨ i = 2 ∨ i = 3 by omega) with h | h | h | h
      · subst h
        have c0 : w.cell? ⟨4, 0, none⟩ = some (.string ⟨#[73, 78]⟩) := hT.rw 0
        have c1 : w.cell? ⟨4, 1, none⟩ = some (.int .i64 1) := hT.rw 1
        go_enter Tryz.func139, Tryz.ntmps139
        go_wp2_with fail
        refine (block_Fields _ _ hT).mono ?_; rintro e w' ⟨rfl, rfl⟩
        go_wp2_with fail
        refine (hR _).mono ?_; rintro e w' ⟨rfl, rfl⟩
        rw [show bR 2 = 0 from rfl]
        go_wp2_with fail
        go_quiet (fail)
        go_wp2_with fail
        go_returns
        exact ⟨rfl, by (repeat' (first | (with_reducible exact Below.refl _ _) | (with_reducible assumption) | (with_reducible refine below_drewN ?_ _) | (with_reducible refine Below.alloc ?_ ?_ _) | (with_reducible refine Below.drew ?_) | (with_reducible refine Below.setCell ?_ ?_ _) | go_size))⟩
      · subst h
        have c0 : w.cell? ⟨4, 2, none⟩ = some (.string ⟨#[80, 84]⟩) := hT.rw 2
        have c1 : w.cell? ⟨4, 3, none⟩ = some (.int .i64 6) := hT.rw 3
        go_enter Tryz.func139, Tryz.ntmps139
        go_wp2_with fail
        refine (block_Fields _ _ hT).mono ?_; rintro e w' ⟨rfl, rfl⟩
        go_wp2_with fail
        refine (hR _).mono ?_; rintro e w' ⟨rfl, rfl⟩
        rw [show bR 2 = 0 from rfl]
        go_wp2_with fail
        go_quiet (fail)
        go_wp2_with fail
        go_returns
        exact ⟨rfl, by (repeat' (first | (with_reducible exact Below.refl _ _) | (with_reducible assumption) | (with_reducible refine below_drewN ?_ _) | (with_reducible refine Below.alloc ?_ ?_ _) | (with_reducible refine Below.drew ?_) | (with_reducible refine Below.setCell ?_ ?_ _) | go_size))⟩
      · subst h
        have c0 : w.cell? ⟨4, 4, none⟩ = some (.string ⟨#[81]⟩) := hT.rw 4
        have c1 : w.cell? ⟨4, 5, none⟩ = some (.int .i64 1) := hT.rw 5
        go_enter Tryz.func139, Tryz.ntmps139
        go_wp2_with fail
        refine (block_Fields _ _ hT).mono ?_; rintro e w' ⟨rfl, rfl⟩
        go_wp2_with fail
        refine (hR _).mono ?_; rintro e w' ⟨rfl, rfl⟩
        rw [show bR 2 = 0 from rfl]
        go_wp2_with fail
        go_quiet (fail)
        go_wp2_with fail
        go_returns
        exact ⟨rfl, by (repeat' (first | (with_reducible exact Below.refl _ _) | (with_reducible assumption) | (with_reducible refine below_drewN ?_ _) | (with_reducible refine Below.alloc ?_ ?_ _) | (with_reducible refine Below.drew ?_) | (with_reducible refine Below.setCell ?_ ?_ _) | go_size))⟩
      · subst h
        have c0 : w.cell? ⟨4, 6, none⟩ = some (.string ⟨#[69, 84]⟩) := hT.rw 6
        have c1 : w.cell? ⟨4, 7, none⟩ = some (.int .i64 6) := hT.rw 7
        go_enter Tryz.func139, Tryz.ntmps139
        go_wp2_with fail
        refine (block_Fields _ _ hT).mono ?_; rintro e w' ⟨rfl, rfl⟩
        go_wp2_with fail
        refine (hR _).mono ?_; rintro e w' ⟨rfl, rfl⟩
        rw [show bR 2 = 0 from rfl]
        go_wp2_with fail
        go_quiet (fail)
        go_wp2_with fail
        go_returns
        exact ⟨rfl, by (repeat' (first | (with_reducible exact Below.refl _ _) | (with_reducible assumption) | (with_reducible refine below_drewN ?_ _) | (with_reducible refine Below.alloc ?_ ?_ _) | (with_reducible refine Below.drew ?_) | (with_reducible refine Below.setCell ?_ ?_ _) | go_size))⟩
    · subst h
      have hlen : ((bF 3).length : Int) = 4 := rfl
      rw [hlen] at hi
      rcases (show i = 0 ∨ i = 1 ∨ i = 2 ∨ i = 3 by omega) with h | h | h | h
      · subst h
        have c0 : w.cell? ⟨4, 0, none⟩ = some (.string ⟨#[73, 78]⟩) := hT.rw 0
        have c1 : w.cell? ⟨4, 1, none⟩ = some (.int .i64 1) := hT.rw 1
        go_enter Tryz.func139, Tryz.ntmps139
        go_wp2_with fail
        refine (block_Fields _ _ hT).mono ?_; rintro e w' ⟨rfl, rfl⟩
        go_wp2_with fail
        refine (hR _).mono ?_; rintro e w' ⟨rfl, rfl⟩
        rw [show bR 3 = 0 from rfl]
        go_wp2_with fail
        go_quiet (fail)
        go_wp2_with fail
        go_returns
        exact ⟨rfl, by (repeat' (first | (with_reducible exact Below.refl _ _) | (with_reducible assumption) | (with_reducible refine below_drewN ?_ _) | (with_reducible refine Below.alloc ?_ ?_ _) | (with_reducible refine Below.drew ?_) | (with_reducible refine Below.setCell ?_ ?_ _) | go_size))⟩
      · subst h
        have c0 : w.cell? ⟨4, 2, none⟩ = some (.string ⟨#[80, 84]⟩) := hT.rw 2
        have c1 : w.cell? ⟨4, 3, none⟩ = some (.int .i64 6) := hT.rw 3
        go_enter Tryz.func139, Tryz.ntmps139
        go_wp2_with fail
        refine (block_Fields _ _ hT).mono ?_; rintro e w' ⟨rfl, rfl⟩
        go_wp2_with fail
        refine (hR _).mono ?_; rintro e w' ⟨rfl, rfl⟩
        rw [show bR 3 = 0 from rfl]
        go_wp2_with fail
        go_quiet (fail)
        go_wp2_with fail
        go_returns
        exact ⟨rfl, by (repeat' (first | (with_reducible exact Below.refl _ _) | (with_reducible assumption) | (with_reducible refine below_drewN ?_ _) | (with_reducible refine Below.alloc ?_ ?_ _) | (with_reducible refine Below.drew ?_) | (with_reducible refine Below.setCell ?_ ?_ _) | go_size))⟩
      · subst h
        have c0 : w.cell? ⟨4, 4, none⟩ = some (.string ⟨#[81]⟩) := hT.rw 4
        have c1 : w.cell? ⟨4, 5, none⟩ = some (.int .i64 1) := hT.rw 5
        go_enter Tryz.func139, Tryz.ntmps139
        go_wp2_with fail
        refine (block_Fields _ _ hT).mono ?_; rintro e w' ⟨rfl, rfl⟩
        go_wp2_with fail
        refine (hR _).mono ?_; rintro e w' ⟨rfl, rfl⟩
        rw [show bR 3 = 0 from rfl]
        go_wp2_with fail
        go_quiet (fail)
        go_wp2_with fail
        go_returns
        exact ⟨rfl, by (repeat' (first | (with_reducible exact Below.refl _ _) | (with_reducible assumption) | (with_reducible refine below_drewN ?_ _) | (with_reducible refine Below.alloc ?_ ?_ _) | (with_reducible refine Below.drew ?_) | (with_reducible refine Below.setCell ?_ ?_ _) | go_size))⟩
      · subst h
        have c0 : w.cell? ⟨4, 6, none⟩ = some (.string ⟨#[69, 84]⟩) := hT.rw 6
        have c1 : w.cell? ⟨4, 7, none⟩ = some (.int .i64 6) := hT.rw 7
        go_enter Tryz.func139, Tryz.ntmps139
        go_wp2_with fail
        refine (block_Fields _ _ hT).mono ?_; rintro e w' ⟨rfl, rfl⟩
        go_wp2_with fail
        refine (hR _).mono ?_; rintro e w' ⟨rfl, rfl⟩
        rw [show bR 3 = 0 from rfl]
        go_wp2_with fail
        go_quiet (fail)
        go_wp2_with fail
        go_returns
        exact ⟨rfl, by (repeat' (first | (with_reducible exact Below.refl _ _) | (with_reducible assumption) | (with_reducible refine below_drewN ?_ _) | (with_reducible refine Below.alloc ?_ ?_ _) | (with_reducible refine Below.drew ?_) | (with_reducible refine Below.setCell ?_ ?_ _) | go_size))⟩
    · subst h
      have hlen : ((bF 4).length : Int) = 5 := rfl
      rw [hlen] at hi
      rcases (show i = 0 ∨ i = 1 ∨ i = 2 ∨ i = 3 ∨ i = 4 by omega) with h | h | h | h | h
      · subst h
        have c0 : w.cell? ⟨4, 16, none⟩ = some (.string ⟨#[67, 85]⟩) := hT.rw 16
        have c1 : w.cell? ⟨4, 17, none⟩ = some (.int .i64 1) := hT.rw 17
        go_enter Tryz.func139, Tryz.ntmps139
        go_wp2_with fail
        refine (block_Fields _ _ hT).mono ?_; rintro e w' ⟨rfl, rfl⟩
        go_wp2_with fail
        refine (hR _).mono ?_; rintro e w' ⟨rfl, rfl⟩
        rw [show bR 4 = 1 from rfl]
        go_wp2_with fail
        go_quiet (fail)
        go_wp2_with fail
        go_returns
        exact ⟨rfl, by (repeat' (first | (with_reducible exact Below.refl _ _) | (with_reducible assumption) | (with_reducible refine below_drewN ?_ _) | (with_reducible refine Below.alloc ?_ ?_ _) | (with_reducible refine Below.drew ?_) | (with_reducible refine Below.setCell ?_ ?_ _) | go_size))⟩
      · subst h
        have c0 : w.cell? ⟨4, 18, none⟩ = some (.string ⟨#[82]⟩) := hT.rw 18
        have c1 : w.cell? ⟨4, 19, none⟩ = some (.int .i64 1) := hT.rw 19
        go_enter Tryz.func139, Tryz.ntmps139
        go_wp2_with fail
        refine (block_Fields _ _ hT).mono ?_; rintro e w' ⟨rfl, rfl⟩
        go_wp2_with fail
        refine (hR _).mono ?_; rintro e w' ⟨rfl, rfl⟩
        rw [show bR 4 = 1 from rfl]
        go_wp2_with fail
        go_quiet (fail)
        go_wp2_with fail
        go_returns
        exact ⟨rfl, by (repeat' (first | (with_reducible exact Below.refl _ _) | (with_reducible assumption) | (with_reducible refine below_drewN ?_ _) | (with_reducible refine Below.alloc ?_ ?_ _) | (with_reducible refine Below.drew ?_) | (with_reducible refine Below.setCell ?_ ?_ _) | go_size))⟩
      · subst h
        have c0 : w.cell? ⟨4, 20, none⟩ = some (.string ⟨#[80, 86]⟩) := hT.rw 20
        have c1 : w.cell? ⟨4, 21, none⟩ = some (.int .i64 2) := hT.rw 21
        go_enter Tryz.func139, Tryz.ntmps139
        go_wp2_with fail
        refine (block_Fields _ _ hT).mono ?_; rintro e w' ⟨rfl, rfl⟩
        go_wp2_with fail
        refine (hR _).mono ?_; rintro e w' ⟨rfl, rfl⟩
        rw [show bR 4 = 1 from rfl]
        go_wp2_with fail
        go_quiet (fail)
        go_wp2_with fail
        go_returns
        exact ⟨rfl, by (repeat' (first | (with_reducible exact Below.refl _ _) | (with_reducible assumption) | (with_reducible refine below_drewN ?_ _) | (with_reducible refine Below.alloc ?_ ?_ _) | (with_reducible refine Below.drew ?_) | (with_reducible refine Below.setCell ?_ ?_ _) | go_size))⟩
      · subst h
        have c0 : w.cell? ⟨4, 22, none⟩ = some (.string ⟨#[81]⟩) := hT.rw 22
        have c1 : w.cell? ⟨4, 23, none⟩ = some (.int .i64 1) := hT.rw 23
        go_enter Tryz.func139, Tryz.ntmps139
        go_wp2_with fail
        refine (block_Fields _ _ hT).mono ?_; rintro e w' ⟨rfl, rfl⟩
        go_wp2_with fail
        refine (hR _).mono ?_; rintro e w' ⟨rfl, rfl⟩
        rw [show bR 4 = 1 from rfl]
        go_wp2_with fail
        go_quiet (fail)
        go_wp2_with fail
        go_returns
        exact ⟨rfl, by (repeat' (first | (with_reducible exact Below.refl _ _) | (with_reducible assumption) | (with_reducible refine below_drewN ?_ _) | (with_reducible refine Below.alloc ?_ ?_ _) | (with_reducible refine Below.drew ?_) | (with_reducible refine Below.setCell ?_ ?_ _) | go_size))⟩
      · subst h
        have c0 : w.cell? ⟨4, 24, none⟩ = some (.string ⟨#[67, 86]⟩) := hT.rw 24
        have c1 : w.cell? ⟨4, 25, none⟩ = some (.int .i64 2) := hT.rw 25
        go_enter Tryz.func139, Tryz.ntmps139
        go_wp2_with fail
        refine (block_Fields _ _ hT).mono ?_; rintro e w' ⟨rfl, rfl⟩
        go_wp2_with fail
        refine (hR _).mono ?_; rintro e w' ⟨rfl, rfl⟩
        rw [show bR 4 = 1 from rfl]
        go_wp2_with fail
        go_quiet (fail)
        go_wp2_with fail
        go_returns
        exact ⟨rfl, by (repeat' (first | (with_reducible exact Below.refl _ _) | (with_reducible assumption) | (with_reducible refine below_drewN ?_ _) | (with_reducible refine Below.alloc ?_ ?_ _) | (with_reducible refine Below.drew ?_) | (with_reducible refine Below.setCell ?_ ?_ _) | go_size))⟩
    · subst h
      have hlen : ((bF 5).length : Int) = 5 := rfl
      rw [hlen] at hi
      rcases (show i = 0 ∨ i = 1 ∨ i = 2 ∨ i = 3 ∨ i = 4 by omega) with h | h | h | h | h
      · subst h
        have c0 : w.cell? ⟨4, 32, none⟩ = some (.string ⟨#[67, 68]⟩) := hT.rw 32
        have c1 : w.cell? ⟨4, 33, none⟩ = some (.int .i64 1) := hT.rw 33
        go_enter Tryz.func139, Tryz.ntmps139
        go_wp2_with fail
        refine (block_Fields _ _ hT).mono ?_; rintro e w' ⟨rfl, rfl⟩
        go_wp2_with fail
        refine (hR _).mono ?_; rintro e w' ⟨rfl, rfl⟩
        rw [show bR 5 = 2 from rfl]
        go_wp2_with fail
        go_quiet (fail)
        go_wp2_with fail
        go_returns
        exact ⟨rfl, by (repeat' (first | (with_reducible exact Below.refl _ _) | (with_reducible assumption) | (with_reducible refine below_drewN ?_ _) | (with_reducible refine Below.alloc ?_ ?_ _) | (with_reducible refine Below.drew ?_) | (with_reducible refine Below.setCell ?_ ?_ _) | go_size))⟩
      · subst h
        have c0 : w.cell? ⟨4, 34, none⟩ = some (.string ⟨#[76, 68]⟩) := hT.rw 34
        have c1 : w.cell? ⟨4, 35, none⟩ = some (.int .i64 1) := hT.rw 35
        go_enter Tryz.func139, Tryz.ntmps139
        go_wp2_with fail
        refine (block_Fields _ _ hT).mono ?_; rintro e w' ⟨rfl, rfl⟩
        go_wp2_with fail
        refine (hR _).mono ?_; rintro e w' ⟨rfl, rfl⟩
        rw [show bR 5 = 2 from rfl]
        go_wp2_with fail
        go_quiet (fail)
        go_wp2_with fail
        go_returns
        exact ⟨rfl, by (repeat' (first | (with_reducible exact Below.refl _ _) | (with_reducible assumption) | (with_reducible refine below_drewN ?_ _) | (with_reducible refine Below.alloc ?_ ?_ _) | (with_reducible refine Below.drew ?_) | (with_reducible refine Below.setCell ?_ ?_ _) | go_size))⟩
      · subst h
        have c0 : w.cell? ⟨4, 36, none⟩ = some (.string ⟨#[80, 86]⟩) := hT.rw 36
        have c1 : w.cell? ⟨4, 37, none⟩ = some (.int .i64 2) := hT.rw 37
        go_enter Tryz.func139, Tryz.ntmps139
        go_wp2_with fail
        refine (block_Fields _ _ hT).mono ?_; rintro e w' ⟨rfl, rfl⟩
        go_wp2_with fail
        refine (hR _).mono ?_; rintro e w' ⟨rfl, rfl⟩
        rw [show bR 5 = 2 from rfl]
        go_wp2_with fail
        go_quiet (fail)
        go_wp2_with fail
        go_returns
        exact ⟨rfl, by (repeat' (first | (with_reducible exact Below.refl _ _) | (with_reducible assumption) | (with_reducible refine below_drewN ?_ _) | (with_reducible refine Below.alloc ?_ ?_ _) | (with_reducible refine Below.drew ?_) | (with_reducible refine Below.setCell ?_ ?_ _) | go_size))⟩
      · subst h
        have c0 : w.cell? ⟨4, 38, none⟩ = some (.string ⟨#[81]⟩) := hT.rw 38
        have c1 : w.cell? ⟨4, 39, none⟩ = some (.int .i64 1) := hT.rw 39
        go_enter Tryz.func139, Tryz.ntmps139
        go_wp2_with fail
        refine (block_Fields _ _ hT).mono ?_; rintro e w' ⟨rfl, rfl⟩
        go_wp2_with fail
        refine (hR _).mono ?_; rintro e w' ⟨rfl, rfl⟩
        rw [show bR 5 = 2 from rfl]
        go_wp2_with fail
        go_quiet (fail)
        go_wp2_with fail
        go_returns
        exact ⟨rfl, by (repeat' (first | (with_reducible exact Below.refl _ _) | (with_reducible assumption) | (with_reducible refine below_drewN ?_ _) | (with_reducible refine Below.alloc ?_ ?_ _) | (with_reducible refine Below.drew ?_) | (with_reducible refine Below.setCell ?_ ?_ _) | go_size))⟩
      · subst h
        have c0 : w.cell? ⟨4, 40, none⟩ = some (.string ⟨#[67, 86]⟩) := hT.rw 40
        have c1 : w.cell? ⟨4, 41, none⟩ = some (.int .i64 2) := hT.rw 41
        go_enter Tryz.func139, Tryz.ntmps139
        go_wp2_with fail
        refine (block_Fields _ _ hT).mono ?_; rintro e w' ⟨rfl, rfl⟩
        go_wp2_with fail
        refine (hR _).mono ?_; rintro e w' ⟨rfl, rfl⟩
        rw [show bR 5 = 2 from rfl]
        go_wp2_with fail
        go_quiet (fail)
        go_wp2_with fail
        go_returns
        exact ⟨rfl, by (repeat' (first | (with_reducible exact Below.refl _ _) | (with_reducible assumption) | (with_reducible refine below_drewN ?_ _) | (with_reducible refine Below.alloc ?_ ?_ _) | (with_reducible refine Below.drew ?_) | (with_reducible refine Below.setCell ?_ ?_ _) | go_size))⟩
    · subst h
      have hlen : ((bF 6).length : Int) = 8 := rfl
      rw [hlen] at hi
      rcases (show i = 0 ∨ i = 1 ∨ i = 2 ∨ i = 3 ∨ i = 4 ∨ i = 5 ∨ i = 6 ∨ i = 7 by omega) with h | h | h | h | h | h | h | h
      · subst h
        have c0 : w.cell? ⟨4, 48, none⟩ = some (.string ⟨#[67, 85]⟩) := hT.rw 48
        have c1 : w.cell? ⟨4, 49, none⟩ = some (.int .i64 1) := hT.rw 49
        go_enter Tryz.func139, Tryz.ntmps139
        go_wp2_with fail
        refine (block_Fields _ _ hT).mono ?_; rintro e w' ⟨rfl, rfl⟩
        go_wp2_with fail
        refine (hR _).mono ?_; rintro e w' ⟨rfl, rfl⟩
        rw [show bR 6 = 3 from rfl]
        go_wp2_with fail
        go_quiet (fail)
        go_wp2_with fail
        go_returns
        exact ⟨rfl, by (repeat' (first | (with_reducible exact Below.refl _ _) | (with_reducible assumption) | (with_reducible refine below_drewN ?_ _) | (with_reducible refine Below.alloc ?_ ?_ _) | (with_reducible refine Below.drew ?_) | (with_reducible refine Below.setCell ?_ ?_ _) | go_size))⟩
      · subst h
        have c0 : w.cell? ⟨4, 50, none⟩ = some (.string ⟨#[67, 68]⟩) := hT.rw 50
        have c1 : w.cell? ⟨4, 51, none⟩ = some (.int .i64 1) := hT.rw 51
        go_enter Tryz.func139, Tryz.ntmps139
        go_wp2_with fail
        refine (block_Fields _ _ hT).mono ?_; rintro e w' ⟨rfl, rfl⟩
        go_wp2_with fail
        refine (hR _).mono ?_; rintro e w' ⟨rfl, rfl⟩
        rw [show bR 6 = 3 from rfl]
        go_wp2_with fail
        go_quiet (fail)
        go_wp2_with fail
        go_returns
        exact ⟨rfl, by (repeat' (first | (with_reducible exact Below.refl _ _) | (with_reducible assumption) | (with_reducible refine below_drewN ?_ _) | (with_reducible refine Below.alloc ?_ ?_ _) | (with_reducible refine Below.drew ?_) | (with_reducible refine Below.setCell ?_ ?_ _) | go_size))⟩
      · subst h
        have c0 : w.cell? ⟨4, 52, none⟩ = some (.string ⟨#[82]⟩) := hT.rw 52
        have c1 : w.cell? ⟨4, 53, none⟩ = some (.int .i64 1) := hT.rw 53
        go_enter Tryz.func139, Tryz.ntmps139
        go_wp2_with fail
        refine (block_Fields _ _ hT).mono ?_; rintro e w' ⟨rfl, rfl⟩
        go_wp2_with fail
        refine (hR _).mono ?_; rintro e w' ⟨rfl, rfl⟩
        rw [show bR 6 = 3 from rfl]
        go_wp2_with fail
        go_quiet (fail)
        go_wp2_with fail
        go_returns
        exact ⟨rfl, by (repeat' (first | (with_reducible exact Below.refl _ _) | (with_reducible assumption) | (with_reducible refine below_drewN ?_ _) | (with_reducible refine Below.alloc ?_ ?_ _) | (with_reducible refine Below.drew ?_) | (with_reducible refine Below.setCell ?_ ?_ _) | go_size))⟩
      · subst h
        have c0 : w.cell? ⟨4, 54, none⟩ = some (.string ⟨#[76, 68]⟩) := hT.rw 54
        have c1 : w.cell? ⟨4, 55, none⟩ = some (.int .i64 1) := hT.rw 55
        go_enter Tryz.func139, Tryz.ntmps139
        go_wp2_with fail
        refine (block_Fields _ _ hT).mono ?_; rintro e w' ⟨rfl, rfl⟩
        go_wp2_with fail
        refine (hR _).mono ?_; rintro e w' ⟨rfl, rfl⟩
        rw [show bR 6 = 3 from rfl]
        go_wp2_with fail
        go_quiet (fail)
        go_wp2_with fail
        go_returns
        exact ⟨rfl, by (repeat' (first | (with_reducible exact Below.refl _ _) | (with_reducible assumption) | (with_reducible refine below_drewN ?_ _) | (with_reducible refine Below.alloc ?_ ?_ _) | (with_reducible refine Below.drew ?_) | (with_reducible refine Below.setCell ?_ ?_ _) | go_size))⟩
      · subst h
        have c0 : w.cell? ⟨4, 56, none⟩ = some (.string ⟨#[80, 86]⟩) := hT.rw 56
        have c1 : w.cell? ⟨4, 57, none⟩ = some (.int .i64 2) := hT.rw 57
        go_enter Tryz.func139, Tryz.ntmps139
        go_wp2_with fail
        refine (block_Fields _ _ hT).mono ?_; rintro e w' ⟨rfl, rfl⟩
        go_wp2_with fail
        refine (hR _).mono ?_; rintro e w' ⟨rfl, rfl⟩
        rw [show bR 6 = 3 from rfl]
        go_wp2_with fail
        go_quiet (fail)
        go_wp2_with fail
        go_returns
        exact ⟨rfl, by (repeat' (first | (with_reducible exact Below.refl _ _) | (with_reducible assumption) | (with_reducible refine below_drewN ?_ _) | (with_reducible refine Below.alloc ?_ ?_ _) | (with_reducible refine Below.drew ?_) | (with_reducible refine Below.setCell ?_ ?_ _) | go_size))⟩
      · subst h
        have c0 : w.cell? ⟨4, 58, none⟩ = some (.string ⟨#[81, 85]⟩) := hT.rw 58
        have c1 : w.cell? ⟨4, 59, none⟩ = some (.int .i64 1) := hT.rw 59
        go_enter Tryz.func139, Tryz.ntmps139
        go_wp2_with fail
        refine (block_Fields _ _ hT).mono ?_; rintro e w' ⟨rfl, rfl⟩
        go_wp2_with fail
        refine (hR _).mono ?_; rintro e w' ⟨rfl, rfl⟩
        rw [show bR 6 = 3 from rfl]
        go_wp2_with fail
        go_quiet (fail)
        go_wp2_with fail
        go_returns
        exact ⟨rfl, by (repeat' (first | (with_reducible exact Below.refl _ _) | (with_reducible assumption) | (with_reducible refine below_drewN ?_ _) | (with_reducible refine Below.alloc ?_ ?_ _) | (with_reducible refine Below.drew ?_) | (with_reducible refine Below.setCell ?_ ?_ _) | go_size))⟩
      · subst h
        have c0 : w.cell? ⟨4, 60, none⟩ = some (.string ⟨#[81, 68]⟩) := hT.rw 60
        have c1 : w.cell? ⟨4, 61, none⟩ = some (.int .i64 1) := hT.rw 61
        go_enter Tryz.func139, Tryz.ntmps139
        go_wp2_with fail
        refine (block_Fields _ _ hT).mono ?_; rintro e w' ⟨rfl, rfl⟩
        go_wp2_with fail
        refine (hR _).mono ?_; rintro e w' ⟨rfl, rfl⟩
        rw [show bR 6 = 3 from rfl]
        go_wp2_with fail
        go_quiet (fail)
        go_wp2_with fail
        go_returns
        exact ⟨rfl, by (repeat' (first | (with_reducible exact Below.refl _ _) | (with_reducible assumption) | (with_reducible refine below_drewN ?_ _) | (with_reducible refine Below.alloc ?_ ?_ _) | (with_reducible refine Below.drew ?_) | (with_reducible refine Below.setCell ?_ ?_ _) | go_size))⟩
      · subst h
        have c0 : w.cell? ⟨4, 62, none⟩ = some (.string ⟨#[67, 86]⟩) := hT.rw 62
        have c1 : w.cell? ⟨4, 63, none⟩ = some (.int .i64 2) := hT.rw 63
        go_enter Tryz.func139, Tryz.ntmps139
        go_wp2_with fail
        refine (block_Fields _ _ hT).mono ?_; rintro e w' ⟨rfl, rfl⟩
        go_wp2_with fail
        refine (hR _).mono ?_; rintro e w' ⟨rfl, rfl⟩
        rw [show bR 6 = 3 from rfl]
        go_wp2_with fail
        go_quiet (fail)
        go_wp2_with fail
        go_returns
        exact ⟨rfl, by (repeat' (first | (with_reducible exact Below.refl _ _) | (with_reducible assumption) | (with_reducible refine below_drewN ?_ _) | (with_reducible refine Below.alloc ?_ ?_ _) | (with_reducible refine Below.drew ?_) | (with_reducible refine Below.setCell ?_ ?_ _) | go_size))⟩
    · subst h
      have hlen : ((bF 7).length : Int) = 2 := rfl
      rw [hlen] at hi
      rcases (show i = 0 ∨ i = 1 by omega) with h | h
      · subst h
        have c0 : w.cell? ⟨4, 64, none⟩ = some (.string ⟨#[67, 76, 75]⟩) := hT.rw 64
        have c1 : w.cell? ⟨4, 65, none⟩ = some (.int .i64 1) := hT.rw 65
        go_enter Tryz.func139, Tryz.ntmps139
        go_wp2_with fail
        refine (block_Fields _ _ hT).mono ?_; rintro e w' ⟨rfl, rfl⟩
        go_wp2_with fail
        refine (hR _).mono ?_; rintro e w' ⟨rfl, rfl⟩
        rw [show bR 7 = 4 from rfl]
        go_wp2_with fail
        go_quiet (fail)
        go_wp2_with fail
        go_returns
        exact ⟨rfl, by (repeat' (first | (with_reducible exact Below.refl _ _) | (with_reducible assumption) | (with_reducible refine below_drewN ?_ _) | (with_reducible refine Below.alloc ?_ ?_ _) | (with_reducible refine Below.drew ?_) | (with_reducible refine Below.setCell ?_ ?_ _) | go_size))⟩
      · subst h
        have c0 : w.cell? ⟨4, 66, none⟩ = some (.string ⟨#[81]⟩) := hT.rw 66
        have c1 : w.cell? ⟨4, 67, none⟩ = some (.int .i64 1) := hT.rw 67
        go_enter Tryz.func139, Tryz.ntmps139
        go_wp2_with fail
        refine (block_Fields _ _ hT).mono ?_; rintro e w' ⟨rfl, rfl⟩
        go_wp2_with fail
        refine (hR _).mono ?_; rintro e w' ⟨rfl, rfl⟩
        rw [show bR 7 = 4 from rfl]
        go_wp2_with fail
        go_quiet (fail)
        go_wp2_with fail
        go_returns
        exact ⟨rfl, by (repeat' (first | (with_reducible exact Below.refl _ _) | (with_reducible assumption) | (with_reducible refine below_drewN ?_ _) | (with_reducible refine Below.alloc ?_ ?_ _) | (with_reducible refine Below.drew ?_) | (with_reducible refine Below.setCell ?_ ?_ _) | go_size))⟩
    · subst h
      have hlen : ((bF 8).length : Int) = 2 := rfl
      rw [hlen] at hi
      rcases (show i = 0 ∨ i = 1 by omega) with h | h
      · subst h
        have c0 : w.cell? ⟨4, 64, none⟩ = some (.string ⟨#[67, 76, 75]⟩) := hT.rw 64
        have c1 : w.cell? ⟨4, 65, none⟩ = some (.int .i64 1) := hT.rw 65
        go_enter Tryz.func139, Tryz.ntmps139
        go_wp2_with fail
        refine (block_Fields _ _ hT).mono ?_; rintro e w' ⟨rfl, rfl⟩
        go_wp2_with fail
        refine (hR _).mono ?_; rintro e w' ⟨rfl, rfl⟩
        rw [show bR 8 = 4 from rfl]
        go_wp2_with fail
        go_quiet (fail)
        go_wp2_with fail
        go_returns
        exact ⟨rfl, by (repeat' (first | (with_reducible exact Below.refl _ _) | (with_reducible assumption) | (with_reducible refine below_drewN ?_ _) | (with_reducible refine Below.alloc ?_ ?_ _) | (with_reducible refine Below.drew ?_) | (with_reducible refine Below.setCell ?_ ?_ _) | go_size))⟩
      · subst h
        have c0 : w.cell? ⟨4, 66, none⟩ = some (.string ⟨#[81]⟩) := hT.rw 66
        have c1 : w.cell? ⟨4, 67, none⟩ = some (.int .i64 1) := hT.rw 67
        go_enter Tryz.func139, Tryz.ntmps139
        go_wp2_with fail
        refine (block_Fields _ _ hT).mono ?_; rintro e w' ⟨rfl, rfl⟩
        go_wp2_with fail
        refine (hR _).mono ?_; rintro e w' ⟨rfl, rfl⟩
        rw [show bR 8 = 4 from rfl]
        go_wp2_with fail
        go_quiet (fail)
        go_wp2_with fail
        go_returns
        exact ⟨rfl, by (repeat' (first | (with_reducible exact Below.refl _ _) | (with_reducible assumption) | (with_reducible refine below_drewN ?_ _) | (with_reducible refine Below.alloc ?_ ?_ _) | (with_reducible refine Below.drew ?_) | (with_reducible refine Below.setCell ?_ ?_ _) | go_size))⟩
  · obtain ⟨q1, q2⟩ := fld_no hi
    have Q1 := Lib.hid q1
    have Q2 := Lib.hid q2
    clear q1 q2
    by_cases h0 : i < 0
    · go_enter Tryz.func139, Tryz.ntmps139
      go_wp2_with fail
      go_returns
      exact ⟨by rw [Q1.out, Q2.out]; rfl, Below.refl _ _⟩
    · have hB := block_Fields k w hT
      generalize ((bF k).length : Int) = n at *
      have hge : n ≤ i := by omega
      go_enter Tryz.func139, Tryz.ntmps139
      go_wp2_with fail
      refine hB.mono ?_; rintro e w' ⟨rfl, rfl⟩
      go_wp2_with fail
      go_returns
      exact ⟨by rw [Q1.out, Q2.out]; rfl, Below.refl _ _⟩
end Go.Proofs.YtefejcofmopjfaaGreatDoor
