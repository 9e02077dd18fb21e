/- Layer 8: TimerPulses: what a pulse is behind a call, and the walk. -/
import Derived.Test.YtpgmjjjfacfibaaLawEight
import Derived.Test.YtpgmjjjfacfibaaRowTwo
namespace Go.Proofs.Ytpgmjjjfacfibaa
open Go.RowKit
set_option linter.unusedSimpArgs false
set_option linter.unusedVariables false
def bnum (b : Bool) : Int := if b then 1 else 0
theorem law08_on (b : Bool) (w : World) : Calls Try.prog 10 #[.bool b] w fun e w' => e = .returned (.int .i64 (bnum b)) ∧ w' = w := by
  cases b
  · go_enter Try.func10, Try.ntmps10; go_wp2; go_ret; exact ⟨rfl, rfl⟩
  · go_enter Try.func10, Try.ntmps10; go_wp2; go_ret; exact ⟨rfl, rfl⟩
def PInv (pt now start y3 y4 y5 : Int) (busy rest : Bool) : Prop :=
  0 ≤ now ∧ 0 ≤ y3 ∧ y3 ≤ pt ∧ (y4 = 0 ∧ rest = true ∧ busy = false ∨ y4 = 1 ∧ rest = false ∧ busy = true ∧ y5 = start ∧ 0 ≤ start ∧ start ≤ now ∨ y4 = 2 ∧ rest = false ∧ busy = false)
theorem near_in {n : Int} (h0 : 0 ≤ n) (h1 : n ≤ 1099511627776) : tNear n = n := by unfold tNear hld; omega
theorem long_in {now s : Int} (h0 : 0 ≤ s) (h1 : s ≤ now) (h2 : now ≤ 1099511627776) : tLong now s = now - s := by
  unfold tLong; rw [near_in (by omega) h2, near_in h0 (by omega)]; omega
theorem et_bd (now s p : Int) (h : 0 ≤ p) : 0 ≤ tEt now s p ∧ tEt now s p ≤ p := by
  have := tLong_bd now s
  unfold tEt hld tMost
  omega
theorem due_in {now s p : Int} (h0 : 0 ≤ s) (h1 : s ≤ now) (h2 : now ≤ 1099511627776) (hp : 0 ≤ p) : tDue now s p = decide (p ≤ now - s) := by
  unfold tDue tMost; rw [long_in h0 h1 h2]; congr 1; apply propext; omega
def pStart (now' start : Int) (rest on : Bool) : Int := if rest && on then now' else start
def pBusy (pt now' start : Int) (busy rest on : Bool) : Bool := (busy || (rest && on)) && decide (now' - pStart now' start rest on < pt)
def pRest (pt now' start : Int) (busy rest on : Bool) : Bool := (rest && !on) || (!pBusy pt now' start busy rest on && !on)
theorem pulse_step {pt now now' start y3 y4 y5 : Int} {busy rest : Bool} (on : Bool) (h : PInv pt now start y3 y4 y5 busy rest) (hn : now ≤ now') (h2 : now' ≤ 1099511627776) :
    ∃ z3 z4 z5, tmStep 3 now' (bnum on) pt (bnum busy) y3 y4 y5 0 0 0 0 = .agg #[.int .i64 (bnum on), .int .i64 pt, .int .i64 (bnum (pBusy pt now' start busy rest on)), .int .i64 z3, .int .i64 z4, .int .i64 z5, .int .i64 0, .int .i64 0, .int .i64 0, .int .i64 0] ∧ PInv pt now' (pStart now' start rest on) z3 z4 z5 (pBusy pt now' start busy rest on) (pRest pt now' start busy rest on) := by
  obtain ⟨h0, h3, h4, h5⟩ := h
  have hpt : 0 ≤ pt := by omega
  have hE : ∀ s, 0 ≤ tEt now' s pt ∧ tEt now' s pt ≤ pt := fun s => et_bd now' s pt hpt
  show ∃ z3 z4 z5, tm3 now' (bnum on) pt (bnum busy) y3 y4 y5 0 0 0 0 = _ ∧ _
  rcases h5 with ⟨rfl, rfl, rfl⟩ | ⟨rfl, rfl, rfl, rfl, h6, h7⟩ | ⟨rfl, rfl, rfl⟩
  · cases on
    · exact ⟨y3, 0, y5, by simp [tm3, bnum, pBusy], by simp [PInv, pBusy, pRest, pStart]; omega⟩
    · have hd := due_in (p := pt) (show 0 ≤ now' by omega) (Int.le_refl _) h2 hpt
      by_cases hz : pt = 0
      · subst hz
        have hd' : tDue now' now' 0 = true := by rw [hd]; simp
        have := hE now'
        exact ⟨tEt now' now' 0, 2, now', by simp [tm3, bnum, pBusy, pStart, hd'], by simp [PInv, pBusy, pRest, pStart]; omega⟩
      · have hd' : tDue now' now' pt = false := by rw [hd]; simp; omega
        have := hE now'
        have hlt : 0 < pt := by omega
        exact ⟨tEt now' now' pt, 1, now', by simp [tm3, bnum, pBusy, pStart, hd', hlt], by simp [PInv, pBusy, pRest, pStart, hlt]; omega⟩
  · have hd := due_in (p := pt) h6 (show y5 ≤ now' by omega) h2 hpt
    have := hE y5
    by_cases hz : pt ≤ now' - y5
    · have hd' : tDue now' y5 pt = true := by rw [hd]; simpa using hz
      have hlt : ¬ now' - y5 < pt := by omega
      cases on
      · exact ⟨0, 0, y5, by simp [tm3, bnum, pBusy, pStart, hd', hlt] <;> omega, by simp [PInv, pBusy, pRest, pStart, hlt]; omega⟩
      · exact ⟨tEt now' y5 pt, 2, y5, by simp [tm3, bnum, pBusy, pStart, hd', hlt] <;> omega, by simp [PInv, pBusy, pRest, pStart, hlt]; omega⟩
    · have hd' : tDue now' y5 pt = false := by rw [hd]; simpa using hz
      have hlt : now' - y5 < pt := by omega
      cases on
      · exact ⟨tEt now' y5 pt, 1, y5, by simp [tm3, bnum, pBusy, pStart, hd', hlt], by simp [PInv, pBusy, pRest, pStart, hlt]; omega⟩
      · exact ⟨tEt now' y5 pt, 1, y5, by simp [tm3, bnum, pBusy, pStart, hd', hlt], by simp [PInv, pBusy, pRest, pStart, hlt]; omega⟩
  · cases on
    · exact ⟨0, 0, y5, by simp [tm3, bnum, pBusy], by simp [PInv, pBusy, pRest, pStart]; omega⟩
    · exact ⟨y3, 2, y5, by simp [tm3, bnum, pBusy], by simp [PInv, pBusy, pRest, pStart]; omega⟩
end Go.Proofs.Ytpgmjjjfacfibaa
