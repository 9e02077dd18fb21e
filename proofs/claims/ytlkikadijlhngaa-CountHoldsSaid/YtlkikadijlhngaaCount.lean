/- Contracts of count (layer 9): its small functions. -/
import Derived.Test.YtlkikadijlhngaaRow
import Derived.WalkSpells
import Derived.WalkLawsBesides
import Derived.Deep.QuietTactic
import Derived.BigQuiet
import Derived.Deep.RegionWith
import Derived.WalkSmall
namespace Go.Proofs.Ytlkikadijlhngaa
open Go.RowKit
def bnum (b : Bool) : Int := if b then 1 else 0
def ctIs (k : Int) : Bool := decide (k = 4 ∨ k = 5 ∨ k = 6)
theorem count_number (b : Bool) (w : World) : Calls Try.prog 19 #[.bool b] w fun e w' => e = .returned (.int .i64 (bnum b)) ∧ w = w' := by
  cases b
  · go_enter Try.func19, Try.ntmps19; go_wp2; go_ret; exact ⟨rfl, rfl⟩
  · go_enter Try.func19, Try.ntmps19; go_wp2; go_ret; exact ⟨rfl, rfl⟩
def ctMore (n : Int) : Int := if n < 32767 then n + 1 else n
def ctLess (n : Int) : Int := if n > -32768 then n - 1 else n
theorem count_more (n : Int) (w : World) (hl : -9223372036854775808 ≤ n) : Calls Try.prog 18 #[.int .i64 n] w fun e w' => e = .returned (.int .i64 (ctMore n)) ∧ w = w' := by
  by_cases h : n < 32767
  · have H := Lib.hid (show ctMore n = n + 1 by unfold ctMore; rw [if_pos h])
    go_enter Try.func18, Try.ntmps18; go_wp2; go_ret; exact ⟨by rw [H.out] <;> rfl, rfl⟩
  · have H := Lib.hid (show ctMore n = n by unfold ctMore; rw [if_neg h])
    go_enter Try.func18, Try.ntmps18; go_wp2; go_ret; exact ⟨by rw [H.out] <;> rfl, rfl⟩
theorem count_less (n : Int) (w : World) (hl : n ≤ 9223372036854775807) : Calls Try.prog 20 #[.int .i64 n] w fun e w' => e = .returned (.int .i64 (ctLess n)) ∧ w = w' := by
  by_cases h : n > -32768
  · have H := Lib.hid (show ctLess n = n - 1 by unfold ctLess; rw [if_pos h])
    go_enter Try.func20, Try.ntmps20; go_wp2; go_ret; exact ⟨by rw [H.out] <;> rfl, rfl⟩
  · have H := Lib.hid (show ctLess n = n by unfold ctLess; rw [if_neg h])
    have h2 : n ≤ -32768 := by omega
    go_enter Try.func20, Try.ntmps20; go_wp2; go_ret; exact ⟨by rw [H.out] <;> rfl, rfl⟩
theorem count_Is (k : Int) (w : World) : Calls Try.prog 8 #[.int .i64 k] w fun e w' => e = .returned (.bool (ctIs k)) ∧ w = w' := by
  by_cases h4 : k = 4
  · subst h4; go_enter Try.func8, Try.ntmps8; go_wp2; go_ret; exact ⟨rfl, rfl⟩
  by_cases h5 : k = 5
  · subst h5; go_enter Try.func8, Try.ntmps8; go_wp2; go_ret; exact ⟨rfl, rfl⟩
  by_cases h6 : k = 6
  · subst h6; go_enter Try.func8, Try.ntmps8; go_wp2; go_ret; exact ⟨rfl, rfl⟩
  have e4 : ((k : Int) == 4) = false := by simpa using h4
  have e5 : ((k : Int) == 5) = false := by simpa using h5
  have e6 : ((k : Int) == 6) = false := by simpa using h6
  go_enter Try.func8, Try.ntmps8
  go_wp2
  go_ret
  exact ⟨by simp [ctIs, h4, h5, h6], rfl⟩
set_option maxHeartbeats 1000000 in
theorem count_rises (q b i j : Nat) (I J : Int) (hI : I = i) (hJ : J = j) (x y : Int) (w : World) (hi : i < 10) (hj : j < 10) (hq : w.cell? ⟨q, 0, none⟩ = some (.pointer (some ⟨b, 0, none⟩)))
    (hx : w.cell? ⟨b, i, none⟩ = some (.int .i64 x)) (hy : w.cell? ⟨b, j, none⟩ = some (.int .i64 y)) (hf : w.frozen? ⟨b, j, none⟩ = false) :
    Calls Try.prog 21 #[.int .i64 I, .int .i64 J, .pointer (some ⟨q, 0, none⟩)] w
      fun e w' => e = .returned (.bool (x != 0 && y == 0)) ∧ ∃ n, w' = (w.setCell ⟨b, j, none⟩ (.int .i64 (bnum (x != 0)))).drewN n := by
  subst hI hJ
  have e0 : ((x : Int) != 0) = true ∨ ((x : Int) != 0) = false := by cases (x != 0) <;> simp
  rcases e0 with e0 | e0
  all_goals
    go_enter Try.func21, Try.ntmps21
    go_wp2_with fail
    go_region_with ((go_at_call 19; refine (count_number _ _).mono ?_; rintro e w' ⟨rfl, rfl⟩))
  all_goals
    go_wp2_with fail
    go_ret
    refine ⟨by rw [e0]; rfl, 1, ?_⟩
    rw [e0]
    first | rfl | (rw [World.setCell_drew]; rfl)
end Go.Proofs.Ytlkikadijlhngaa
