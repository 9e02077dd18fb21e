/- Contracts of timer (layer 8) and of its answer: the small functions. -/
import Derived.Test.YtajgdfgemcpjgaaDoorRow
import Derived.WalkSpells
import Derived.WalkLawsBesides
import Derived.Deep.QuietTactic
import Derived.BigQuiet
import Derived.Deep.RegionWith
import Derived.WalkSmall
import Derived.IntWalk
namespace Go.Proofs.YtajgdfgemcpjgaaDoor
open Go.RowKit
set_option linter.unusedSimpArgs false
set_option linter.unusedVariables false
def hld (n m : Int) : Int := if n < 0 then 0 else if n > m then m else n
def tNear (n : Int) : Int := hld n 1099511627776
def tLong (now s : Int) : Int := max (tNear now - tNear s) 0
def tMost (p : Int) : Int := max p 0
def tDue (now s p : Int) : Bool := decide (tMost p ≤ tLong now s)
def tEt (now s p : Int) : Int := hld (tLong now s) (tMost p)
theorem tNear_bd (n : Int) : 0 ≤ tNear n ∧ tNear n ≤ 1099511627776 := by unfold tNear hld; omega
theorem tLong_bd (now s : Int) : 0 ≤ tLong now s := by unfold tLong; omega
theorem timer_near (n : Int) (w : World) : Calls Tryd.prog 58 #[.int .i64 n] w fun e w' => e = .returned (.int .i64 (tNear n)) ∧ w = w' := by
  by_cases h1 : n < 0
  · have Hr := Lib.hid (show tNear n = 0 by unfold tNear hld; omega)
    go_enter Tryd.func58, Tryd.ntmps58; go_wp2; go_ret; exact ⟨by rw [Hr.out] <;> rfl, rfl⟩
  by_cases h2 : 1099511627776 < n
  · have Hr := Lib.hid (show tNear n = 1099511627776 by unfold tNear hld; omega)
    have h3 : ¬ n < 0 := h1
    go_enter Tryd.func58, Tryd.ntmps58; go_wp2; go_ret; exact ⟨by rw [Hr.out] <;> rfl, rfl⟩
  · have Hr := Lib.hid (show tNear n = n by unfold tNear hld; omega)
    go_enter Tryd.func58, Tryd.ntmps58; go_wp2; go_ret; exact ⟨by rw [Hr.out] <;> rfl, rfl⟩
theorem ref08_held (n m : Int) (w : World) : Calls Tryd.prog 57 #[.int .i64 n, .int .i64 m] w fun e w' => e = .returned (.int .i64 (hld n m)) ∧ w = w' := by
  by_cases h1 : n < 0
  · have Hr := Lib.hid (show hld n m = 0 by unfold hld; omega)
    go_enter Tryd.func57, Tryd.ntmps57; go_wp2; go_ret; exact ⟨by rw [Hr.out] <;> rfl, rfl⟩
  by_cases h2 : n > m
  · have Hr := Lib.hid (show hld n m = m by unfold hld; omega)
    have h3 : ¬ n < 0 := h1
    go_enter Tryd.func57, Tryd.ntmps57; go_wp2; go_ret; exact ⟨by rw [Hr.out] <;> rfl, rfl⟩
  · have Hr := Lib.hid (show hld n m = n by unfold hld; omega)
    go_enter Tryd.func57, Tryd.ntmps57; go_wp2; go_ret; exact ⟨by rw [Hr.out] <;> rfl, rfl⟩
theorem drewN_set (W : World) (q : Nat) (x : Addr) (v : Value) : (W.drewN q).setCell x v = (W.setCell x v).drewN q := by
  simp only [World.setCell, World.heap_drewN]
  rfl
def tmIs (k : Int) : Bool := decide (k = 1 ∨ k = 2 ∨ k = 3)
theorem timer_Is (k : Int) (w : World) : Calls Tryd.prog 26 #[.int .i64 k] w fun e w' => e = .returned (.bool (tmIs k)) ∧ w = w' := by
  by_cases h4 : k = 1
  · subst h4; go_enter Tryd.func26, Tryd.ntmps26; go_wp2; go_ret; exact ⟨rfl, rfl⟩
  by_cases h5 : k = 2
  · subst h5; go_enter Tryd.func26, Tryd.ntmps26; go_wp2; go_ret; exact ⟨rfl, rfl⟩
  by_cases h6 : k = 3
  · subst h6; go_enter Tryd.func26, Tryd.ntmps26; go_wp2; go_ret; exact ⟨rfl, rfl⟩
  have e4 : ((k : Int) == 1) = false := by simpa using h4
  have e5 : ((k : Int) == 2) = false := by simpa using h5
  have e6 : ((k : Int) == 3) = false := by simpa using h6
  go_enter Tryd.func26, Tryd.ntmps26
  go_wp2
  go_ret
  exact ⟨by simp [tmIs, h4, h5, h6], rfl⟩
set_option maxHeartbeats 1000000 in
theorem timer_tell (b : Nat) (now s p z : Int) (w : World) (h5 : w.cell? ⟨b, 5, none⟩ = some (.int .i64 s)) (h1 : w.cell? ⟨b, 1, none⟩ = some (.int .i64 p)) (h3 : w.cell? ⟨b, 3, none⟩ = some (.int .i64 z)) (hf : w.frozen? ⟨b, 3, none⟩ = false) :
    Calls Tryd.prog 52 #[.pointer (some ⟨b, 0, none⟩), .int .i64 now] w
      fun e w' => e = .returned (.bool (tDue now s p)) ∧ ∃ n, w' = (w.setCell ⟨b, 3, none⟩ (.int .i64 (tEt now s p))).drewN n := by
  obtain ⟨bu1, bu2⟩ := tNear_bd now
  obtain ⟨bv1, bv2⟩ := tNear_bd s
  obtain ⟨m, hm⟩ : ∃ m, tMost p = m := ⟨_, rfl⟩
  obtain ⟨t, ht⟩ : ∃ t, tLong now s = t := ⟨_, rfl⟩
  have hp : p < 0 ∧ 0 = m ∨ ¬ p < 0 ∧ p = m := by rw [← hm]; unfold tMost; omega
  have hq : tNear now - tNear s < 0 ∧ 0 = t ∨ ¬ tNear now - tNear s < 0 ∧ tNear now - tNear s = t := by rw [← ht]; unfold tLong; omega
  have Hdue := Lib.hid (show tDue now s p = decide (m ≤ t) by unfold tDue; rw [hm, ht])
  have Het := Lib.hid (show tEt now s p = if m < t then m else t by unfold tEt hld; rw [hm, ht]; have := tLong_bd now s; rw [ht] at this; rw [if_neg (by omega)])
  clear hm ht
  have hw := IntWalk.i64_in (tNear now - tNear s) (by omega)
  have hx : m < t ∨ ¬ m < t := by omega
  rcases hp with ⟨hp, rfl⟩ | ⟨hp, rfl⟩ <;> rcases hq with ⟨hq, rfl⟩ | ⟨hq, rfl⟩ <;> rcases hx with hx | hx
  all_goals first | (exfalso; omega) | skip
  all_goals
    first | (have Hx := Lib.hid (show tEt now s _ = _ from Het.out.trans (if_pos hx))) | (have Hx := Lib.hid (show tEt now s _ = _ from Het.out.trans (if_neg hx)))
    clear Het
    go_enter Tryd.func52, Tryd.ntmps52
    go_wp2_with fail
    go_quiet ((go_at_call 58; exact Calls.quiet_of_same ((timer_near _ _).mono fun _ _ h => ⟨h.1, h.2.symm⟩)))
    clear hw
    go_wp2_with fail
    go_ret
    rw [Hdue.out, Hx.out]
    refine ⟨by first | rfl | (simp; done) | (simp; omega), nq, ?_⟩
    first | rfl | exact drewN_set _ _ _ _
end Go.Proofs.YtajgdfgemcpjgaaDoor
