/- Layer 8: TimerDelays: what the two timers are behind a call. -/
import Derived.Test.YtpgmjjjfacfibaaPulse
namespace Go.Proofs.Ytpgmjjjfacfibaa
open Go.RowKit
set_option linter.unusedSimpArgs false
set_option linter.unusedVariables false
def DInv (k : Nat) (pt now since y4 y5 z4 z5 : Int) (was ever : Bool) : Prop :=
  0 ≤ now ∧ 0 ≤ since ∧ since ≤ now ∧ (k = 0 → was = false ∧ ever = false) ∧ (was = true ∧ y4 = 1 ∧ y5 = since ∨ was = false ∧ y4 = 0) ∧
  (z4 = 0 ∧ ever = false ∧ was = false ∨ z4 = 1 ∧ was = true ∧ ever = true ∨ z4 = 2 ∧ was = false ∧ ever = true ∧ z5 = since ∧ now - since < pt ∨ z4 = 3 ∧ was = false ∧ ever = true ∧ pt ≤ now - since)
def dSince (k : Nat) (now' since : Int) (was on : Bool) : Int := if k = 0 ∨ on ≠ was then now' else since
def tonQ (pt now since : Int) (was : Bool) : Int := bnum (was && decide (pt ≤ now - since))
def tofQ (pt now since : Int) (was ever : Bool) : Int := bnum (was || (ever && !decide (pt ≤ now - since)))
theorem dSince_bd {k : Nat} {now' since : Int} {was on : Bool} (h0 : 0 ≤ since) (h1 : since ≤ now') : 0 ≤ dSince k now' since was on ∧ dSince k now' since was on ≤ now' := by
  unfold dSince; split <;> omega
theorem ton_step {k : Nat} {pt now now' since y3 y4 y5 z4 z5 : Int} {was ever : Bool} (on : Bool) (h : DInv k pt now since y4 y5 z4 z5 was ever) (hn : now ≤ now') (h2 : now' ≤ 1099511627776) (hpt : 0 ≤ pt) :
    ∃ y3' y4' y5', tmStep 1 now' (bnum on) pt (tonQ pt now since was) y3 y4 y5 0 0 0 0 = .agg #[.int .i64 (bnum on), .int .i64 pt, .int .i64 (tonQ pt now' (dSince k now' since was on) on), .int .i64 y3', .int .i64 y4', .int .i64 y5', .int .i64 0, .int .i64 0, .int .i64 0, .int .i64 0] ∧
      (on = true ∧ y4' = 1 ∧ y5' = dSince k now' since was on ∨ on = false ∧ y4' = 0) := by
  obtain ⟨h0, h3, h4, h5, h6, _⟩ := h
  show ∃ y3' y4' y5', tm1 now' (bnum on) pt (tonQ pt now since was) y3 y4 y5 0 0 0 0 = _ ∧ _
  cases on
  · exact ⟨0, 0, y5, by simp [tm1, bnum, tonQ], by simp⟩
  rcases h6 with ⟨rfl, rfl, rfl⟩ | ⟨rfl, rfl⟩
  · have hs : dSince k now' y5 true true = y5 := by unfold dSince; rw [if_neg]; intro hh; rcases hh with hh | hh; · have := (h5 hh).1; simp at this
                                                    · exact hh rfl
    have hd := due_in (p := pt) h3 (show y5 ≤ now' by omega) h2 hpt
    rw [hs]
    by_cases hz : pt ≤ now' - y5
    · have hd' : tDue now' y5 pt = true := by rw [hd]; simpa using hz
      exact ⟨tEt now' y5 pt, 1, y5, by simp [tm1, bnum, tonQ, hd', hz], by simp⟩
    · have hd' : tDue now' y5 pt = false := by rw [hd]; simpa using hz
      exact ⟨tEt now' y5 pt, 1, y5, by simp [tm1, bnum, tonQ, hd', hz], by simp⟩
  · have hs : dSince k now' since false true = now' := by unfold dSince; rw [if_pos (by simp)]
    have hd := due_in (p := pt) (show 0 ≤ now' by omega) (Int.le_refl _) h2 hpt
    rw [hs]
    by_cases hz : pt ≤ now' - now'
    · have hd' : tDue now' now' pt = true := by rw [hd]; simpa using hz
      have hz' : pt ≤ 0 := by omega
      exact ⟨tEt now' now' pt, 1, now', by simp [tm1, bnum, tonQ, hd', hz'], by simp⟩
    · have hd' : tDue now' now' pt = false := by rw [hd]; simp; omega
      have hz' : ¬ pt ≤ 0 := by omega
      exact ⟨tEt now' now' pt, 1, now', by simp [tm1, bnum, tonQ, hd', hz'], by simp⟩
theorem tof_step {k : Nat} {pt now now' since y4 y5 z3 z4 z5 : Int} {was ever : Bool} (on : Bool) (h : DInv k pt now since y4 y5 z4 z5 was ever) (hn : now ≤ now') (h2 : now' ≤ 1099511627776) (hpt : 0 ≤ pt) :
    ∃ z3' z4' z5', tmStep 2 now' (bnum on) pt (tofQ pt now since was ever) z3 z4 z5 0 0 0 0 = .agg #[.int .i64 (bnum on), .int .i64 pt, .int .i64 (tofQ pt now' (dSince k now' since was on) on (ever || on)), .int .i64 z3', .int .i64 z4', .int .i64 z5', .int .i64 0, .int .i64 0, .int .i64 0, .int .i64 0] ∧
      (z4' = 0 ∧ (ever || on) = false ∧ on = false ∨ z4' = 1 ∧ on = true ∧ (ever || on) = true ∨ z4' = 2 ∧ on = false ∧ (ever || on) = true ∧ z5' = dSince k now' since was on ∧ now' - dSince k now' since was on < pt ∨ z4' = 3 ∧ on = false ∧ (ever || on) = true ∧ pt ≤ now' - dSince k now' since was on) := by
  obtain ⟨h0, h3, h4, h5, _, h6⟩ := h
  show ∃ z3' z4' z5', tm2 now' (bnum on) pt (tofQ pt now since was ever) z3 z4 z5 0 0 0 0 = _ ∧ _
  cases on
  · rcases h6 with ⟨rfl, rfl, rfl⟩ | ⟨rfl, rfl, rfl⟩ | ⟨rfl, rfl, rfl, rfl, h7⟩ | ⟨rfl, rfl, rfl, h7⟩
    · exact ⟨z3, 0, z5, by simp [tm2, bnum, tofQ], by simp⟩
    · have hs : dSince k now' since true false = now' := by unfold dSince; rw [if_pos (by simp)]
      have hd := due_in (p := pt) (show 0 ≤ now' by omega) (Int.le_refl _) h2 hpt
      rw [hs]
      by_cases hz : pt ≤ 0
      · have hd' : tDue now' now' pt = true := by rw [hd]; simp; omega
        exact ⟨tEt now' now' pt, 3, now', by simp [tm2, bnum, tofQ, hd', hz], by simp [hz]⟩
      · have hd' : tDue now' now' pt = false := by rw [hd]; simp; omega
        exact ⟨tEt now' now' pt, 2, now', by simp [tm2, bnum, tofQ, hd', hz], by simp; omega⟩
    · have hs : dSince k now' z5 false false = z5 := by
        unfold dSince; rw [if_neg]; intro hh; rcases hh with hh | hh
        · have := (h5 hh).2; simp at this
        · exact hh rfl
      have hd := due_in (p := pt) h3 (show z5 ≤ now' by omega) h2 hpt
      have h7' : ¬ pt ≤ now - z5 := by omega
      rw [hs]
      by_cases hz : pt ≤ now' - z5
      · have hd' : tDue now' z5 pt = true := by rw [hd]; simpa using hz
        exact ⟨tEt now' z5 pt, 3, z5, by simp [tm2, bnum, tofQ, hd', hz], by simp [hz]⟩
      · have hd' : tDue now' z5 pt = false := by rw [hd]; simpa using hz
        exact ⟨tEt now' z5 pt, 2, z5, by simp [tm2, bnum, tofQ, hd', hz, h7'], by simp; omega⟩
    · have hs : dSince k now' since false false = since := by
        unfold dSince; rw [if_neg]; intro hh; rcases hh with hh | hh
        · have := (h5 hh).2; simp at this
        · exact hh rfl
      have h8 : pt ≤ now' - since := by omega
      rw [hs]
      exact ⟨z3, 3, z5, by simp [tm2, bnum, tofQ, h7, h8], by simp [h8]⟩
  · exact ⟨0, 1, z5, by simp [tm2, bnum, tofQ], by simp⟩
theorem d_inv {k : Nat} {pt now now' since y4 y5 z4 z5 y4' y5' z4' z5' : Int} {was ever on : Bool} (h : DInv k pt now since y4 y5 z4 z5 was ever) (hn : now ≤ now')
    (ha : on = true ∧ y4' = 1 ∧ y5' = dSince k now' since was on ∨ on = false ∧ y4' = 0)
    (hb : z4' = 0 ∧ (ever || on) = false ∧ on = false ∨ z4' = 1 ∧ on = true ∧ (ever || on) = true ∨ z4' = 2 ∧ on = false ∧ (ever || on) = true ∧ z5' = dSince k now' since was on ∧ now' - dSince k now' since was on < pt ∨ z4' = 3 ∧ on = false ∧ (ever || on) = true ∧ pt ≤ now' - dSince k now' since was on) :
    DInv (k + 1) pt now' (dSince k now' since was on) y4' y5' z4' z5' on (ever || on) := by
  obtain ⟨h0, h3, h4, h5, h6, h7⟩ := h
  have := dSince_bd (k := k) (was := was) (on := on) h3 (show since ≤ now' by omega)
  exact ⟨by omega, this.1, this.2, fun hh => by omega, ha, hb⟩
end Go.Proofs.Ytpgmjjjfacfibaa
