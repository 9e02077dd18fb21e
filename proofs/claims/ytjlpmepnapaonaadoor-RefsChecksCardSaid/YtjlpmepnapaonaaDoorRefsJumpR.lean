/- Layer 18: where one may go on from a place, by the answer. -/
import Derived.Test.YtjlpmepnapaonaaDoorRefsJump
namespace Go.Proofs.YtjlpmepnapaonaaDoor
open Go.RowKit
set_option linter.unusedSimpArgs false
set_option linter.unusedVariables false
set_option maxRecDepth 100000 in
set_option maxHeartbeats 4000000 in
theorem ref18_Jump (v : Value) (L : List Ins) (pc : Nat) (x : Ins) (w : World) (h : RowR 3 insR w v L) (hx : L[pc]? = some x) (ha : 0 ≤ x.2.1) (hL : L.length ≤ 300) :
    Calls Tryd.prog 13 #[v, .int .i64 pc] w fun e w' => e = .returned (.int .i64 (jumpP L pc x.1 x.2.1)) ∧ Below w.heap.size w w' := by
  have cp := @cell_past
  obtain ⟨s, t, rfl⟩ := row_get h
  obtain ⟨b, off, rfl, hbw, hc⟩ := code_at h (lt_of_get hx)
  obtain ⟨c0, c1, c2, i0, i1, i2⟩ := hc pc x hx
  have hpc := lt_of_get hx
  have q0 : ((pc : Int) < 0) = False := eq_false (by omega)
  have q1 : ((L.length : Int) ≤ (pc : Int)) = False := eq_false (by omega)
  have q2 : ((pc : Int) < (L.length : Int)) = True := eq_true (by omega)
  obtain ⟨o, a, bb⟩ := x
  simp only at ha c0 c1 c2 i0 i1 i2 ⊢
  have r0 : (a < 0) = False := eq_false (by omega)
  by_cases d : o = 30 ∨ o = 31
  · have hj := jumpP_j (L := L) (pc := pc) (a := a) d
    by_cases g : a < L.length
    · have hs := Lib.hid (hj.trans (if_pos g))
      have g1 : (a < (L.length : Int)) = True := eq_true g
      have g2 : ((L.length : Int) ≤ a) = False := eq_false (by omega)
      generalize L.length = n at *
      clear hj hc h hx hpc g
      rcases d with rfl | rfl
      all_goals
        go_enter Tryd.func13, Tryd.ntmps13
        go_wp2_with fail
        go_ret
        exact ⟨by rw [hs.out]; rfl, by (repeat' (first | (with_reducible exact Below.refl _ _) | (with_reducible assumption) | (with_reducible refine below_drewN ?_ _) | (with_reducible refine Below.alloc ?_ ?_ _) | (with_reducible refine Below.drew ?_) | (with_reducible refine Below.setCell ?_ ?_ _) | go_size))⟩
    · have hs := Lib.hid (hj.trans (if_neg g))
      have g1 : (a < (L.length : Int)) = False := eq_false g
      have g2 : ((L.length : Int) ≤ a) = True := eq_true (by omega)
      generalize L.length = n at *
      clear hj hc h hx hpc g
      rcases d with rfl | rfl
      all_goals
        go_enter Tryd.func13, Tryd.ntmps13
        go_wp2_with fail
        go_ret
        exact ⟨by rw [hs.out]; rfl, by (repeat' (first | (with_reducible exact Below.refl _ _) | (with_reducible assumption) | (with_reducible refine below_drewN ?_ _) | (with_reducible refine Below.alloc ?_ ?_ _) | (with_reducible refine Below.drew ?_) | (with_reducible refine Below.setCell ?_ ?_ _) | go_size))⟩
  by_cases d2 : o = 32
  · subst d2
    have hj := jumpP_s (L := L) (pc := pc) (a := a)
    by_cases g : a < (L.length : Int) - 1 - pc
    · rw [if_pos g] at hj
      have HY := Lib.hid (fun hh => hj.trans (if_pos (armsP_yes (L := L) (pc := pc) (a := a) hh)))
      have HN := Lib.hid (fun k hk hh => hj.trans (if_neg (by rw [armsP_no (L := L) (pc := pc) (a := a) (k := k) hk hh]; decide)))
      have g2 : ((L.length : Int) - pc - 1 ≤ a) = False := eq_false (by omega)
      have HG := Lib.hid g
      obtain ⟨n, hn⟩ : ∃ n, L.length = n := ⟨_, rfl⟩
      have Hn := Lib.hid hn
      have Hc := Lib.hid hc
      clear hj g d hc h hx
      rw [hn] at HG q1 q2 g2 hpc hL
      rw [hn]
      clear hn
      go_enter Tryd.func13, Tryd.ntmps13
      go_wp2_with fail
      go_loopw [6] (fun jj wr => ∃ k : Nat, (k : Int) ≤ a ∧ jj = .int .i64 (k : Int) ∧ Hid (∀ j, j < k → opAt L (pc + 1 + j) = 30) ∧ wr = w.alloc (.cells #[.int .i64 32, .int .i64 a, .int .i64 bb] 35)) (fun jj _ => (a - intOf jj).toNat)
      case atStart => exact ⟨0, by omega, rfl, Lib.hid (fun j hj => by omega), rfl⟩
      case round =>
        obtain ⟨k, hk, rfl, hall, rfl⟩ := hrel
        by_cases hlt : (k : Int) < a
        · have m1 : ((k : Int) < a) = True := eq_true hlt
          have hltH := Lib.hid hlt
          have hkn : pc + 1 + k < n := by have := HG.out; omega
          obtain ⟨y, hy⟩ := get_some (L := L) (n := pc + 1 + k) (by rw [Hn.out]; exact hkn)
          obtain ⟨y0, _⟩ := Hc.out _ y hy
          have hoy := opAt_get hy
          have m2 : (0 ≤ (pc : Int) + 1 + (k : Int)) = True := eq_true (by omega)
          have m3 : ((pc : Int) + 1 + (k : Int) < (n : Int)) = True := eq_true (by omega)
          have m4 : ((pc : Int) + 1 + (k : Int)).toNat = pc + 1 + k := by omega
          by_cases g30 : y.1 = 30
          · have hs := Lib.hid (show ∀ j, j < k + 1 → opAt L (pc + 1 + j) = 30 by
              intro j hj
              by_cases hjk : j = k
              · rw [hjk, hoy, g30]
              · exact hall.out j (by omega))
            rw [g30] at y0
            clear hy hoy g30 hall hlt
            go_wp2_with fail
            go_roundw
            case rel => exact ⟨k + 1, by have := hltH.out; omega, by simp, hs, trivial⟩
            case measure => have := hltH.out; first | (simp [intOf]; done) | (simp [intOf]; omega)
          · have hs := Lib.hid (HN.out k (by omega) (by rw [hoy]; exact g30))
            have m5 : (y.1 != 30) = true := by simpa using g30
            generalize y.1 = yo at *
            clear hy hoy g30 hall hlt
            go_wp2_with fail
            go_ret
            exact ⟨by rw [hs.out]; rfl, by (repeat' (first | (with_reducible exact Below.refl _ _) | (with_reducible assumption) | (with_reducible refine below_drewN ?_ _) | (with_reducible refine Below.alloc ?_ ?_ _) | (with_reducible refine Below.drew ?_) | (with_reducible refine Below.setCell ?_ ?_ _) | go_size))⟩
        · have m1 : ((k : Int) < a) = False := eq_false hlt
          have hs := Lib.hid (HY.out (fun j hj => hall.out j (by omega)))
          clear hall hlt
          go_wp2_with fail
          go_ret
          exact ⟨by rw [hs.out]; rfl, by (repeat' (first | (with_reducible exact Below.refl _ _) | (with_reducible assumption) | (with_reducible refine below_drewN ?_ _) | (with_reducible refine Below.alloc ?_ ?_ _) | (with_reducible refine Below.drew ?_) | (with_reducible refine Below.setCell ?_ ?_ _) | go_size))⟩
    · have hs := Lib.hid (hj.trans (if_neg g))
      have g2 : ((L.length : Int) - pc - 1 ≤ a) = True := eq_true (by omega)
      generalize L.length = n at *
      clear hj hc h hx g d
      go_enter Tryd.func13, Tryd.ntmps13
      go_wp2_with fail
      go_ret
      exact ⟨by rw [hs.out]; rfl, by (repeat' (first | (with_reducible exact Below.refl _ _) | (with_reducible assumption) | (with_reducible refine below_drewN ?_ _) | (with_reducible refine Below.alloc ?_ ?_ _) | (with_reducible refine Below.drew ?_) | (with_reducible refine Below.setCell ?_ ?_ _) | go_size))⟩
  · have hs := Lib.hid (jumpP_n (L := L) (pc := pc) (a := a) d d2)
    have v0 : (o == 30) = false := beq_eq_false_iff_ne.2 (fun q => d (Or.inl q))
    have v1 : (o == 31) = false := beq_eq_false_iff_ne.2 (fun q => d (Or.inr q))
    have v2 : (o != 32) = true := by simpa using d2
    generalize L.length = n at *
    clear hc h hx hpc d d2
    go_enter Tryd.func13, Tryd.ntmps13
    go_wp2_with fail
    go_ret
    exact ⟨by rw [hs.out]; rfl, by (repeat' (first | (with_reducible exact Below.refl _ _) | (with_reducible assumption) | (with_reducible refine below_drewN ?_ _) | (with_reducible refine Below.alloc ?_ ?_ _) | (with_reducible refine Below.drew ?_) | (with_reducible refine Below.setCell ?_ ?_ _) | go_size))⟩
end Go.Proofs.YtjlpmepnapaonaaDoor
