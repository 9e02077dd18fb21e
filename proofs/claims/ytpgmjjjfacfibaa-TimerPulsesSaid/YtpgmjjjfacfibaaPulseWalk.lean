/- Layer 8: the walk of TimerPulses. -/
import Derived.Test.YtpgmjjjfacfibaaPulse
import Derived.LoopTactic
namespace Go.Proofs.Ytpgmjjjfacfibaa
open Go.RowKit
set_option linter.unusedSimpArgs false
set_option linter.unusedVariables false
def PWorld (w : World) (pt now start : Int) (busy rest : Bool) (wr : World) : Prop :=
  ∃ on y3 y4 y5 l d, PInv pt now start y3 y4 y5 busy rest ∧ wr = wmore (w.alloc (.cells #[.int .i64 on, .int .i64 pt, .int .i64 (bnum busy), .int .i64 y3, .int .i64 y4, .int .i64 y5, .int .i64 0, .int .i64 0, .int .i64 0, .int .i64 0] 24)) l d
set_option maxRecDepth 100000 in
set_option maxHeartbeats 4000000 in
theorem timerPulses_walk (pt : Int) (v : Value) (n : Nat) (F : Nat → Int) (G : Nat → Bool) (w : World) (hp : 0 ≤ pt ∧ pt ≤ 255) (hF : ∀ i, i < n → 0 ≤ F i ∧ F i ≤ 255) (hv : Row2At w v n (fun i => .int .u8 (F i)) (fun i => .bool (G i))) :
    Calls Try.prog 5 #[.int .u8 pt, v] w fun e w' => e = .returned (.bool true) ∧ Below w.heap.size w w' := by
  obtain ⟨hp0, hp1⟩ := hp
  have mc := @more_cell
  have mf := @more_frozen
  have ms := @more_set
  have mm := more_more
  have md := more_drewN
  have mcp := @cell_past
  rcases hv with ⟨a, cap, rfl, rfl⟩ | ⟨b, off, cap, rfl, h1, h2, h3, h4, hcell⟩
  · go_enter Try.func5, Try.ntmps5
    go_wp2_with fail
    refine wp_loop_rounds 1 ?_
    rw [rounds_succ]
    go_wp2_with fail
    refine (law08_awake _).mono ?_; rintro e w1 ⟨rfl, hb⟩
    have hB : Below w.heap.size w w1 := Below.trans (by (repeat' (first | (with_reducible exact Below.refl _ _) | (with_reducible assumption) | (with_reducible refine below_drewN ?_ _) | (with_reducible refine Below.alloc ?_ ?_ _) | (with_reducible refine Below.drew ?_) | (with_reducible refine Below.setCell ?_ ?_ _) | go_size))) (hb.mono (by simp))
    go_wp2_with fail
    go_ret
    exact ⟨rfl, hB⟩
  · have h3' : cap ≤ 9223372036854775807 := by unfold maxLen at h3; omega
    by_cases hn : 60 < n
    · go_enter Try.func5, Try.ntmps5
      go_wp2_with fail
      refine (law08_awake _).mono ?_; rintro e w1 ⟨rfl, hb⟩
      go_wp2_with fail
      go_ret
      exact ⟨rfl, hb⟩
    · go_enter Try.func5, Try.ntmps5
      go_wp2_with fail
      go_loopw [6, 7, 8, 9, 10] (fun s6 s7 s8 s9 s10 wr => ∃ (k : Nat) (now start : Int) (busy rest : Bool), k ≤ n ∧ s10 = .int .i64 k ∧ s6 = .int .i64 now ∧ s7 = .int .i64 start ∧ s8 = .bool busy ∧ s9 = .bool rest ∧ now ≤ 255 * k ∧ PWorld w pt now start busy rest wr) (fun _ _ _ _ s10 _ => n - (intOf s10).toNat)
      case atStart => exact ⟨0, 0, 0, false, true, by omega, rfl, rfl, rfl, rfl, rfl, by omega, 0, 0, 0, 0, #[], _, ⟨by omega, by omega, by omega, by simp⟩, more_start _⟩
      case round =>
        obtain ⟨k, now, start, busy, rest, hk, rfl, rfl, rfl, rfl, rfl, hnow, on0, y3, y4, y5, l, d, hI, rfl⟩ := hrel
        by_cases hlt : k < n
        · obtain ⟨hc1, hc2⟩ := hcell k hlt
          obtain ⟨hf1, hf2⟩ := hF k hlt
          obtain ⟨z3, z4, z5, hs, hI2⟩ := pulse_step (G k) hI (show now ≤ now + F k by omega) (by omega)
          obtain ⟨hn0, _, _, hI5⟩ := id hI
          clear hI hcell hF
          generalize G k = on at hc2 hs hI2
          rcases hI5 with ⟨rfl, rfl, rfl⟩ | ⟨rfl, rfl, rfl, rfl, _, _⟩ | ⟨rfl, rfl, rfl⟩
          all_goals cases on
          · by_cases hg : now + F k - pStart (now + F k) start true false < pt
            · have eb : pBusy pt (now + F k) start false true false = false := by simp [pBusy]
              have er : pRest pt (now + F k) start false true false = true := by simp [pRest, eb]
              have es : pStart (now + F k) start true false = start := by simp [pStart]
              rw [eb] at hs
              rw [eb, er, es] at hI2
              rw [es] at hg
              have Hs := Lib.hid hs
              have HI := Lib.hid hI2
              have hz1 : decide (z3 < 0) = false := by simp; exact hI2.2.1
              have hz2 : decide (pt < z3) = false := by simp; exact hI2.2.2.1
              clear hs hI2 eb er es hg
              go_wp2_with (first | (go_at_call 10; refine (law08_on _ _).mono ?_; rintro e w' ⟨rfl, rfl⟩) | (go_at_call 6; refine (timer_Step 3 (now + F k) _ _ _ _ _ _ _ _ _ _ _).mono ?_; rintro e w1 ⟨rfl, hb⟩; rw [Hs.out]; obtain ⟨l2, d2, rfl⟩ := more_of hb; clear hb) | fail)
              generalize hW : wmore _ (l ++ l2) d2 = W
              have c2 : W.cell? ⟨w.heap.size, 2, none⟩ = some (.int .i64 (bnum false)) := by rw [← hW]; simp [more_cell, more_size, cell_at]
              have c3 : W.cell? ⟨w.heap.size, 3, none⟩ = some (.int .i64 z3) := by rw [← hW]; simp [more_cell, more_size, cell_at]
              have HW := Lib.hid hW
              clear hW
              go_quiet ((go_at_call 10; exact Calls.quiet_of_same (law08_on _ _)))
              go_wp2_with fail
              go_roundw
              case rel => exact ⟨k + 1, now + F k, start, false, true, by omega, by go_num, rfl, rfl, rfl, rfl, by omega, _, z3, z4, z5, _, _, HI.out, by rw [← HW.out, more_drewN]⟩
              case measure => simp [intOf]; omega
            · have eb : pBusy pt (now + F k) start false true false = false := by simp [pBusy]
              have er : pRest pt (now + F k) start false true false = true := by simp [pRest, eb]
              have es : pStart (now + F k) start true false = start := by simp [pStart]
              rw [eb] at hs
              rw [eb, er, es] at hI2
              rw [es] at hg
              have Hs := Lib.hid hs
              have HI := Lib.hid hI2
              have hz1 : decide (z3 < 0) = false := by simp; exact hI2.2.1
              have hz2 : decide (pt < z3) = false := by simp; exact hI2.2.2.1
              clear hs hI2 eb er es hg
              go_wp2_with (first | (go_at_call 10; refine (law08_on _ _).mono ?_; rintro e w' ⟨rfl, rfl⟩) | (go_at_call 6; refine (timer_Step 3 (now + F k) _ _ _ _ _ _ _ _ _ _ _).mono ?_; rintro e w1 ⟨rfl, hb⟩; rw [Hs.out]; obtain ⟨l2, d2, rfl⟩ := more_of hb; clear hb) | fail)
              generalize hW : wmore _ (l ++ l2) d2 = W
              have c2 : W.cell? ⟨w.heap.size, 2, none⟩ = some (.int .i64 (bnum false)) := by rw [← hW]; simp [more_cell, more_size, cell_at]
              have c3 : W.cell? ⟨w.heap.size, 3, none⟩ = some (.int .i64 z3) := by rw [← hW]; simp [more_cell, more_size, cell_at]
              have HW := Lib.hid hW
              clear hW
              go_quiet ((go_at_call 10; exact Calls.quiet_of_same (law08_on _ _)))
              go_wp2_with fail
              go_roundw
              case rel => exact ⟨k + 1, now + F k, start, false, true, by omega, by go_num, rfl, rfl, rfl, rfl, by omega, _, z3, z4, z5, _, _, HI.out, by rw [← HW.out, more_drewN]⟩
              case measure => simp [intOf]; omega
          · by_cases hg : now + F k - pStart (now + F k) start true true < pt
            · have eb : pBusy pt (now + F k) start false true true = true := by simp [pBusy, hg]
              have er : pRest pt (now + F k) start false true true = false := by simp [pRest, eb]
              have es : pStart (now + F k) start true true = now + F k := by simp [pStart]
              rw [eb] at hs
              rw [eb, er, es] at hI2
              rw [es] at hg
              have Hs := Lib.hid hs
              have HI := Lib.hid hI2
              have hz1 : decide (z3 < 0) = false := by simp; exact hI2.2.1
              have hz2 : decide (pt < z3) = false := by simp; exact hI2.2.2.1
              have hg2 : decide (0 < pt) = true := by simp; omega
              clear hs hI2 eb er es hg
              go_wp2_with (first | (go_at_call 10; refine (law08_on _ _).mono ?_; rintro e w' ⟨rfl, rfl⟩) | (go_at_call 6; refine (timer_Step 3 (now + F k) _ _ _ _ _ _ _ _ _ _ _).mono ?_; rintro e w1 ⟨rfl, hb⟩; rw [Hs.out]; obtain ⟨l2, d2, rfl⟩ := more_of hb; clear hb) | fail)
              generalize hW : wmore _ (l ++ l2) d2 = W
              have c2 : W.cell? ⟨w.heap.size, 2, none⟩ = some (.int .i64 (bnum true)) := by rw [← hW]; simp [more_cell, more_size, cell_at]
              have c3 : W.cell? ⟨w.heap.size, 3, none⟩ = some (.int .i64 z3) := by rw [← hW]; simp [more_cell, more_size, cell_at]
              have HW := Lib.hid hW
              clear hW
              go_quiet ((go_at_call 10; exact Calls.quiet_of_same (law08_on _ _)))
              go_wp2_with fail
              go_roundw
              case rel => exact ⟨k + 1, now + F k, now + F k, true, false, by omega, by go_num, rfl, rfl, rfl, rfl, by omega, _, z3, z4, z5, _, _, HI.out, by rw [← HW.out, more_drewN]⟩
              case measure => simp [intOf]; omega
            · have eb : pBusy pt (now + F k) start false true true = false := by simp [pBusy, hg]
              have er : pRest pt (now + F k) start false true true = false := by simp [pRest, eb]
              have es : pStart (now + F k) start true true = now + F k := by simp [pStart]
              rw [eb] at hs
              rw [eb, er, es] at hI2
              rw [es] at hg
              have Hs := Lib.hid hs
              have HI := Lib.hid hI2
              have hz1 : decide (z3 < 0) = false := by simp; exact hI2.2.1
              have hz2 : decide (pt < z3) = false := by simp; exact hI2.2.2.1
              have hg2 : decide (0 < pt) = false := by simp; omega
              clear hs hI2 eb er es hg
              go_wp2_with (first | (go_at_call 10; refine (law08_on _ _).mono ?_; rintro e w' ⟨rfl, rfl⟩) | (go_at_call 6; refine (timer_Step 3 (now + F k) _ _ _ _ _ _ _ _ _ _ _).mono ?_; rintro e w1 ⟨rfl, hb⟩; rw [Hs.out]; obtain ⟨l2, d2, rfl⟩ := more_of hb; clear hb) | fail)
              generalize hW : wmore _ (l ++ l2) d2 = W
              have c2 : W.cell? ⟨w.heap.size, 2, none⟩ = some (.int .i64 (bnum false)) := by rw [← hW]; simp [more_cell, more_size, cell_at]
              have c3 : W.cell? ⟨w.heap.size, 3, none⟩ = some (.int .i64 z3) := by rw [← hW]; simp [more_cell, more_size, cell_at]
              have HW := Lib.hid hW
              clear hW
              go_quiet ((go_at_call 10; exact Calls.quiet_of_same (law08_on _ _)))
              go_wp2_with fail
              go_roundw
              case rel => exact ⟨k + 1, now + F k, now + F k, false, false, by omega, by go_num, rfl, rfl, rfl, rfl, by omega, _, z3, z4, z5, _, _, HI.out, by rw [← HW.out, more_drewN]⟩
              case measure => simp [intOf]; omega
          · by_cases hg : now + F k - pStart (now + F k) y5 false false < pt
            · have eb : pBusy pt (now + F k) y5 true false false = true := by simp [pBusy, hg]
              have er : pRest pt (now + F k) y5 true false false = false := by simp [pRest, eb]
              have es : pStart (now + F k) y5 false false = y5 := by simp [pStart]
              rw [eb] at hs
              rw [eb, er, es] at hI2
              rw [es] at hg
              have Hs := Lib.hid hs
              have HI := Lib.hid hI2
              have hz1 : decide (z3 < 0) = false := by simp; exact hI2.2.1
              have hz2 : decide (pt < z3) = false := by simp; exact hI2.2.2.1
              have hg2 : decide (now + F k - y5 < pt) = true := by simpa using hg
              clear hs hI2 eb er es hg
              go_wp2_with (first | (go_at_call 10; refine (law08_on _ _).mono ?_; rintro e w' ⟨rfl, rfl⟩) | (go_at_call 6; refine (timer_Step 3 (now + F k) _ _ _ _ _ _ _ _ _ _ _).mono ?_; rintro e w1 ⟨rfl, hb⟩; rw [Hs.out]; obtain ⟨l2, d2, rfl⟩ := more_of hb; clear hb) | fail)
              generalize hW : wmore _ (l ++ l2) d2 = W
              have c2 : W.cell? ⟨w.heap.size, 2, none⟩ = some (.int .i64 (bnum true)) := by rw [← hW]; simp [more_cell, more_size, cell_at]
              have c3 : W.cell? ⟨w.heap.size, 3, none⟩ = some (.int .i64 z3) := by rw [← hW]; simp [more_cell, more_size, cell_at]
              have HW := Lib.hid hW
              clear hW
              go_quiet ((go_at_call 10; exact Calls.quiet_of_same (law08_on _ _)))
              go_wp2_with fail
              go_roundw
              case rel => exact ⟨k + 1, now + F k, y5, true, false, by omega, by go_num, rfl, rfl, rfl, rfl, by omega, _, z3, z4, z5, _, _, HI.out, by rw [← HW.out, more_drewN]⟩
              case measure => simp [intOf]; omega
            · have eb : pBusy pt (now + F k) y5 true false false = false := by simp [pBusy, hg]
              have er : pRest pt (now + F k) y5 true false false = true := by simp [pRest, eb]
              have es : pStart (now + F k) y5 false false = y5 := by simp [pStart]
              rw [eb] at hs
              rw [eb, er, es] at hI2
              rw [es] at hg
              have Hs := Lib.hid hs
              have HI := Lib.hid hI2
              have hz1 : decide (z3 < 0) = false := by simp; exact hI2.2.1
              have hz2 : decide (pt < z3) = false := by simp; exact hI2.2.2.1
              have hg2 : decide (now + F k - y5 < pt) = false := by simp; omega
              clear hs hI2 eb er es hg
              go_wp2_with (first | (go_at_call 10; refine (law08_on _ _).mono ?_; rintro e w' ⟨rfl, rfl⟩) | (go_at_call 6; refine (timer_Step 3 (now + F k) _ _ _ _ _ _ _ _ _ _ _).mono ?_; rintro e w1 ⟨rfl, hb⟩; rw [Hs.out]; obtain ⟨l2, d2, rfl⟩ := more_of hb; clear hb) | fail)
              generalize hW : wmore _ (l ++ l2) d2 = W
              have c2 : W.cell? ⟨w.heap.size, 2, none⟩ = some (.int .i64 (bnum false)) := by rw [← hW]; simp [more_cell, more_size, cell_at]
              have c3 : W.cell? ⟨w.heap.size, 3, none⟩ = some (.int .i64 z3) := by rw [← hW]; simp [more_cell, more_size, cell_at]
              have HW := Lib.hid hW
              clear hW
              go_quiet ((go_at_call 10; exact Calls.quiet_of_same (law08_on _ _)))
              go_wp2_with fail
              go_roundw
              case rel => exact ⟨k + 1, now + F k, y5, false, true, by omega, by go_num, rfl, rfl, rfl, rfl, by omega, _, z3, z4, z5, _, _, HI.out, by rw [← HW.out, more_drewN]⟩
              case measure => simp [intOf]; omega
          · by_cases hg : now + F k - pStart (now + F k) y5 false true < pt
            · have eb : pBusy pt (now + F k) y5 true false true = true := by simp [pBusy, hg]
              have er : pRest pt (now + F k) y5 true false true = false := by simp [pRest, eb]
              have es : pStart (now + F k) y5 false true = y5 := by simp [pStart]
              rw [eb] at hs
              rw [eb, er, es] at hI2
              rw [es] at hg
              have Hs := Lib.hid hs
              have HI := Lib.hid hI2
              have hz1 : decide (z3 < 0) = false := by simp; exact hI2.2.1
              have hz2 : decide (pt < z3) = false := by simp; exact hI2.2.2.1
              have hg2 : decide (now + F k - y5 < pt) = true := by simpa using hg
              clear hs hI2 eb er es hg
              go_wp2_with (first | (go_at_call 10; refine (law08_on _ _).mono ?_; rintro e w' ⟨rfl, rfl⟩) | (go_at_call 6; refine (timer_Step 3 (now + F k) _ _ _ _ _ _ _ _ _ _ _).mono ?_; rintro e w1 ⟨rfl, hb⟩; rw [Hs.out]; obtain ⟨l2, d2, rfl⟩ := more_of hb; clear hb) | fail)
              generalize hW : wmore _ (l ++ l2) d2 = W
              have c2 : W.cell? ⟨w.heap.size, 2, none⟩ = some (.int .i64 (bnum true)) := by rw [← hW]; simp [more_cell, more_size, cell_at]
              have c3 : W.cell? ⟨w.heap.size, 3, none⟩ = some (.int .i64 z3) := by rw [← hW]; simp [more_cell, more_size, cell_at]
              have HW := Lib.hid hW
              clear hW
              go_quiet ((go_at_call 10; exact Calls.quiet_of_same (law08_on _ _)))
              go_wp2_with fail
              go_roundw
              case rel => exact ⟨k + 1, now + F k, y5, true, false, by omega, by go_num, rfl, rfl, rfl, rfl, by omega, _, z3, z4, z5, _, _, HI.out, by rw [← HW.out, more_drewN]⟩
              case measure => simp [intOf]; omega
            · have eb : pBusy pt (now + F k) y5 true false true = false := by simp [pBusy, hg]
              have er : pRest pt (now + F k) y5 true false true = false := by simp [pRest, eb]
              have es : pStart (now + F k) y5 false true = y5 := by simp [pStart]
              rw [eb] at hs
              rw [eb, er, es] at hI2
              rw [es] at hg
              have Hs := Lib.hid hs
              have HI := Lib.hid hI2
              have hz1 : decide (z3 < 0) = false := by simp; exact hI2.2.1
              have hz2 : decide (pt < z3) = false := by simp; exact hI2.2.2.1
              have hg2 : decide (now + F k - y5 < pt) = false := by simp; omega
              clear hs hI2 eb er es hg
              go_wp2_with (first | (go_at_call 10; refine (law08_on _ _).mono ?_; rintro e w' ⟨rfl, rfl⟩) | (go_at_call 6; refine (timer_Step 3 (now + F k) _ _ _ _ _ _ _ _ _ _ _).mono ?_; rintro e w1 ⟨rfl, hb⟩; rw [Hs.out]; obtain ⟨l2, d2, rfl⟩ := more_of hb; clear hb) | fail)
              generalize hW : wmore _ (l ++ l2) d2 = W
              have c2 : W.cell? ⟨w.heap.size, 2, none⟩ = some (.int .i64 (bnum false)) := by rw [← hW]; simp [more_cell, more_size, cell_at]
              have c3 : W.cell? ⟨w.heap.size, 3, none⟩ = some (.int .i64 z3) := by rw [← hW]; simp [more_cell, more_size, cell_at]
              have HW := Lib.hid hW
              clear hW
              go_quiet ((go_at_call 10; exact Calls.quiet_of_same (law08_on _ _)))
              go_wp2_with fail
              go_roundw
              case rel => exact ⟨k + 1, now + F k, y5, false, false, by omega, by go_num, rfl, rfl, rfl, rfl, by omega, _, z3, z4, z5, _, _, HI.out, by rw [← HW.out, more_drewN]⟩
              case measure => simp [intOf]; omega
          · by_cases hg : now + F k - pStart (now + F k) start false false < pt
            · have eb : pBusy pt (now + F k) start false false false = false := by simp [pBusy]
              have er : pRest pt (now + F k) start false false false = true := by simp [pRest, eb]
              have es : pStart (now + F k) start false false = start := by simp [pStart]
              rw [eb] at hs
              rw [eb, er, es] at hI2
              rw [es] at hg
              have Hs := Lib.hid hs
              have HI := Lib.hid hI2
              have hz1 : decide (z3 < 0) = false := by simp; exact hI2.2.1
              have hz2 : decide (pt < z3) = false := by simp; exact hI2.2.2.1
              clear hs hI2 eb er es hg
              go_wp2_with (first | (go_at_call 10; refine (law08_on _ _).mono ?_; rintro e w' ⟨rfl, rfl⟩) | (go_at_call 6; refine (timer_Step 3 (now + F k) _ _ _ _ _ _ _ _ _ _ _).mono ?_; rintro e w1 ⟨rfl, hb⟩; rw [Hs.out]; obtain ⟨l2, d2, rfl⟩ := more_of hb; clear hb) | fail)
              generalize hW : wmore _ (l ++ l2) d2 = W
              have c2 : W.cell? ⟨w.heap.size, 2, none⟩ = some (.int .i64 (bnum false)) := by rw [← hW]; simp [more_cell, more_size, cell_at]
              have c3 : W.cell? ⟨w.heap.size, 3, none⟩ = some (.int .i64 z3) := by rw [← hW]; simp [more_cell, more_size, cell_at]
              have HW := Lib.hid hW
              clear hW
              go_quiet ((go_at_call 10; exact Calls.quiet_of_same (law08_on _ _)))
              go_wp2_with fail
              go_roundw
              case rel => exact ⟨k + 1, now + F k, start, false, true, by omega, by go_num, rfl, rfl, rfl, rfl, by omega, _, z3, z4, z5, _, _, HI.out, by rw [← HW.out, more_drewN]⟩
              case measure => simp [intOf]; omega
            · have eb : pBusy pt (now + F k) start false false false = false := by simp [pBusy]
              have er : pRest pt (now + F k) start false false false = true := by simp [pRest, eb]
              have es : pStart (now + F k) start false false = start := by simp [pStart]
              rw [eb] at hs
              rw [eb, er, es] at hI2
              rw [es] at hg
              have Hs := Lib.hid hs
              have HI := Lib.hid hI2
              have hz1 : decide (z3 < 0) = false := by simp; exact hI2.2.1
              have hz2 : decide (pt < z3) = false := by simp; exact hI2.2.2.1
              clear hs hI2 eb er es hg
              go_wp2_with (first | (go_at_call 10; refine (law08_on _ _).mono ?_; rintro e w' ⟨rfl, rfl⟩) | (go_at_call 6; refine (timer_Step 3 (now + F k) _ _ _ _ _ _ _ _ _ _ _).mono ?_; rintro e w1 ⟨rfl, hb⟩; rw [Hs.out]; obtain ⟨l2, d2, rfl⟩ := more_of hb; clear hb) | fail)
              generalize hW : wmore _ (l ++ l2) d2 = W
              have c2 : W.cell? ⟨w.heap.size, 2, none⟩ = some (.int .i64 (bnum false)) := by rw [← hW]; simp [more_cell, more_size, cell_at]
              have c3 : W.cell? ⟨w.heap.size, 3, none⟩ = some (.int .i64 z3) := by rw [← hW]; simp [more_cell, more_size, cell_at]
              have HW := Lib.hid hW
              clear hW
              go_quiet ((go_at_call 10; exact Calls.quiet_of_same (law08_on _ _)))
              go_wp2_with fail
              go_roundw
              case rel => exact ⟨k + 1, now + F k, start, false, true, by omega, by go_num, rfl, rfl, rfl, rfl, by omega, _, z3, z4, z5, _, _, HI.out, by rw [← HW.out, more_drewN]⟩
              case measure => simp [intOf]; omega
          · by_cases hg : now + F k - pStart (now + F k) start false true < pt
            · have eb : pBusy pt (now + F k) start false false true = false := by simp [pBusy]
              have er : pRest pt (now + F k) start false false true = false := by simp [pRest, eb]
              have es : pStart (now + F k) start false true = start := by simp [pStart]
              rw [eb] at hs
              rw [eb, er, es] at hI2
              rw [es] at hg
              have Hs := Lib.hid hs
              have HI := Lib.hid hI2
              have hz1 : decide (z3 < 0) = false := by simp; exact hI2.2.1
              have hz2 : decide (pt < z3) = false := by simp; exact hI2.2.2.1
              clear hs hI2 eb er es hg
              go_wp2_with (first | (go_at_call 10; refine (law08_on _ _).mono ?_; rintro e w' ⟨rfl, rfl⟩) | (go_at_call 6; refine (timer_Step 3 (now + F k) _ _ _ _ _ _ _ _ _ _ _).mono ?_; rintro e w1 ⟨rfl, hb⟩; rw [Hs.out]; obtain ⟨l2, d2, rfl⟩ := more_of hb; clear hb) | fail)
              generalize hW : wmore _ (l ++ l2) d2 = W
              have c2 : W.cell? ⟨w.heap.size, 2, none⟩ = some (.int .i64 (bnum false)) := by rw [← hW]; simp [more_cell, more_size, cell_at]
              have c3 : W.cell? ⟨w.heap.size, 3, none⟩ = some (.int .i64 z3) := by rw [← hW]; simp [more_cell, more_size, cell_at]
              have HW := Lib.hid hW
              clear hW
              go_quiet ((go_at_call 10; exact Calls.quiet_of_same (law08_on _ _)))
              go_wp2_with fail
              go_roundw
              case rel => exact ⟨k + 1, now + F k, start, false, false, by omega, by go_num, rfl, rfl, rfl, rfl, by omega, _, z3, z4, z5, _, _, HI.out, by rw [← HW.out, more_drewN]⟩
              case measure => simp [intOf]; omega
            · have eb : pBusy pt (now + F k) start false false true = false := by simp [pBusy]
              have er : pRest pt (now + F k) start false false true = false := by simp [pRest, eb]
              have es : pStart (now + F k) start false true = start := by simp [pStart]
              rw [eb] at hs
              rw [eb, er, es] at hI2
              rw [es] at hg
              have Hs := Lib.hid hs
              have HI := Lib.hid hI2
              have hz1 : decide (z3 < 0) = false := by simp; exact hI2.2.1
              have hz2 : decide (pt < z3) = false := by simp; exact hI2.2.2.1
              clear hs hI2 eb er es hg
              go_wp2_with (first | (go_at_call 10; refine (law08_on _ _).mono ?_; rintro e w' ⟨rfl, rfl⟩) | (go_at_call 6; refine (timer_Step 3 (now + F k) _ _ _ _ _ _ _ _ _ _ _).mono ?_; rintro e w1 ⟨rfl, hb⟩; rw [Hs.out]; obtain ⟨l2, d2, rfl⟩ := more_of hb; clear hb) | fail)
              generalize hW : wmore _ (l ++ l2) d2 = W
              have c2 : W.cell? ⟨w.heap.size, 2, none⟩ = some (.int .i64 (bnum false)) := by rw [← hW]; simp [more_cell, more_size, cell_at]
              have c3 : W.cell? ⟨w.heap.size, 3, none⟩ = some (.int .i64 z3) := by rw [← hW]; simp [more_cell, more_size, cell_at]
              have HW := Lib.hid hW
              clear hW
              go_quiet ((go_at_call 10; exact Calls.quiet_of_same (law08_on _ _)))
              go_wp2_with fail
              go_roundw
              case rel => exact ⟨k + 1, now + F k, start, false, false, by omega, by go_num, rfl, rfl, rfl, rfl, by omega, _, z3, z4, z5, _, _, HI.out, by rw [← HW.out, more_drewN]⟩
              case measure => simp [intOf]; omega
        · obtain rfl : k = n := by omega
          go_wp2_with fail
          refine (law08_awake _).mono ?_; rintro e w1 ⟨rfl, hb⟩
          have hB : Below w.heap.size w w1 := Below.trans (by (repeat' (first | (with_reducible exact Below.refl _ _) | (with_reducible assumption) | (with_reducible refine more_below ?_ ?_ _ _) | (with_reducible refine below_drewN ?_ _) | (with_reducible refine Below.alloc ?_ ?_ _) | (with_reducible refine Below.drew ?_) | (with_reducible refine Below.setCell ?_ ?_ _) | (simp only [World.size_alloc, World.size_setCell, World.size_drew, more_size, World.heap_drewN]; omega) | go_size))) (hb.mono (by rw [more_size]; simp; omega))
          go_wp2_with fail
          go_ret
          exact ⟨rfl, hB⟩
end Go.Proofs.Ytpgmjjjfacfibaa
