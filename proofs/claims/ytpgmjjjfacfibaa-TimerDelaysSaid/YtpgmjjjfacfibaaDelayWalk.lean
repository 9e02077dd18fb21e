/- Layer 8: the walk of TimerDelays. -/
import Derived.Test.YtpgmjjjfacfibaaDelay
import Derived.LoopTactic
namespace Go.Proofs.Ytpgmjjjfacfibaa
open Go.RowKit
set_option linter.unusedSimpArgs false
set_option linter.unusedVariables false
def DWorld (w : World) (k : Nat) (pt now since : Int) (was ever : Bool) (wr : World) : Prop :=
  ∃ oa ob y3 y4 y5 z3 z4 z5 l d, DInv k pt now since y4 y5 z4 z5 was ever ∧ wr = wmore ((w.alloc (.cells #[.int .i64 oa, .int .i64 pt, .int .i64 (tonQ pt now since was), .int .i64 y3, .int .i64 y4, .int .i64 y5, .int .i64 0, .int .i64 0, .int .i64 0, .int .i64 0] 24)).alloc (.cells #[.int .i64 ob, .int .i64 pt, .int .i64 (tofQ pt now since was ever), .int .i64 z3, .int .i64 z4, .int .i64 z5, .int .i64 0, .int .i64 0, .int .i64 0, .int .i64 0] 24)) l d
set_option maxRecDepth 100000 in
set_option maxHeartbeats 16000000 in
theorem timerDelays_walk (pt : Int) (v : Value) (n : Nat) (F : Nat → Int) (G : Nat → Bool) (w : World) (hp : 0 ≤ pt ∧ pt ≤ 255) (hF : ∀ i, i < n → 0 ≤ F i ∧ F i ≤ 255) (hv : Row2At w v n (fun i => .int .u8 (F i)) (fun i => .bool (G i))) :
    Calls Try.prog 4 #[.int .u8 pt, v] w fun e w' => e = .returned (.bool true) ∧ Below w.heap.size w w' := by
  obtain ⟨hp0, hp1⟩ := hp
  have mc := @more_cell
  have mf := @more_frozen
  have ms := @more_set
  have mm := more_more
  have md := more_drewN
  have md1 := more_drew
  have mcp := @cell_past
  rcases hv with ⟨a, cap, rfl, rfl⟩ | ⟨b, off, cap, rfl, h1, h2, h3, h4, hcell⟩
  · go_enter Try.func4, Try.ntmps4
    go_wp2_with fail
    refine wp_loop_rounds 1 ?_
    rw [rounds_succ]
    go_wp2_with fail
    refine (law08_awake _).mono ?_; rintro e w1 ⟨rfl, hb⟩
    have hB : Below w.heap.size w w1 := Below.trans (by (repeat' (first | (with_reducible exact Below.refl _ _) | (with_reducible assumption) | (with_reducible refine below_drewN ?_ _) | (with_reducible refine Below.alloc ?_ ?_ _) | (with_reducible refine Below.drew ?_) | (with_reducible refine Below.setCell ?_ ?_ _) | go_size))) (hb.mono (by simp <;> omega))
    go_wp2_with fail
    go_ret
    exact ⟨rfl, hB⟩
  · have h3' : cap ≤ 9223372036854775807 := by unfold maxLen at h3; omega
    have hb1 : b < w.heap.size + 1 := by omega
    have hb2 : b < w.heap.size + 1 + 1 := by omega
    by_cases hn : 60 < n
    · go_enter Try.func4, Try.ntmps4
      go_wp2_with fail
      refine (law08_awake _).mono ?_; rintro e w1 ⟨rfl, hb⟩
      go_wp2_with fail
      go_ret
      exact ⟨rfl, hb⟩
    · go_enter Try.func4, Try.ntmps4
      go_wp2_with fail
      go_loopw [7, 8, 9, 10, 11] (fun s7 s8 s9 s10 s11 wr => ∃ (k : Nat) (now since : Int) (was ever : Bool), k ≤ n ∧ s11 = .int .i64 k ∧ s7 = .int .i64 now ∧ s8 = .int .i64 since ∧ s9 = .bool was ∧ s10 = .bool ever ∧ now ≤ 255 * k ∧ DWorld w k pt now since was ever wr) (fun _ _ _ _ s11 _ => n - (intOf s11).toNat)
      case atStart => exact ⟨0, 0, 0, false, false, by omega, rfl, rfl, rfl, rfl, rfl, by omega, 0, 0, 0, 0, 0, 0, 0, 0, #[], _, ⟨by omega, by omega, by omega, by simp, by simp, by simp⟩, more_start _⟩
      case round =>
        obtain ⟨k, now, since, was, ever, hk, rfl, rfl, rfl, rfl, rfl, hnow, oa, ob, y3, y4, y5, z3, z4, z5, l, d, hI, rfl⟩ := hrel
        by_cases hlt : k < n
        · obtain ⟨hc1, hc2⟩ := hcell k hlt
          obtain ⟨hf1, hf2⟩ := hF k hlt
          obtain ⟨a3, a4, a5, hsa, hia⟩ := ton_step (y3 := y3) (G k) hI (show now ≤ now + F k by omega) (by omega) hp0
          obtain ⟨b3, b4, b5, hsb, hib⟩ := tof_step (z3 := z3) (G k) hI (show now ≤ now + F k by omega) (by omega) hp0
          have hI2 := d_inv hI (show now ≤ now + F k by omega) hia hib
          obtain ⟨hn0, hs0, hs1, hk0, hx4, hx5⟩ := id hI
          have hwe : was = false ∧ ever = false ∨ was = true ∧ ever = true ∨ was = false ∧ ever = true := by
            rcases hx5 with ⟨_, h1, h2⟩ | ⟨_, h1, h2⟩ | ⟨_, h1, h2, _⟩ | ⟨_, h1, h2, _⟩ <;> simp [h1, h2]
          clear hI hcell hF hia hib hx4 hx5
          generalize G k = on at hc2 hsa hsb hI2
          have hk3 : k = 0 ∨ k ≠ 0 := by omega
          generalize hQa : tonQ pt now since was = qa at *
          generalize hQb : tofQ pt now since was ever = qb at *
          clear hQa hQb
          rcases hwe with ⟨rfl, rfl⟩ | ⟨rfl, rfl⟩ | ⟨rfl, rfl⟩
          · cases on
            · rcases hk3 with hk3 | hk3
              · have es : dSince k (now + F k) since false false = now + F k := by simp [dSince, hk3]
                have ek : ((k : Int) == 0) = true := by simp [hk3]
                have hz0 : 0 ≤ now + F k ∧ now + F k ≤ now + F k := by omega
                obtain ⟨g, hg⟩ : ∃ g : Bool, decide (pt ≤ 0) = g := ⟨_, rfl⟩
                have hg' : decide (pt ≤ now + F k - (now + F k)) = g := by rw [← hg]; congr 1; apply propext; omega
                have ea : tonQ pt (now + F k) (now + F k) false = bnum (false) := by simp [tonQ, hg, hg']
                have eb : tofQ pt (now + F k) (now + F k) false (false || false) = bnum (false) := by simp [tofQ, hg, hg']
                rw [es, ea] at hsa
                rw [es, eb] at hsb
                rw [es] at hI2
                have Hsa := Lib.hid hsa
                have Hsb := Lib.hid hsb
                have HI := Lib.hid hI2
                have Hea := Lib.hid ea
                have Heb := Lib.hid eb
                clear hsa hsb hI2 ea eb es hk3 hk0 hg'
                go_wp2_with (first | (go_at_call 10; refine (law08_on _ _).mono ?_; rintro e w' ⟨rfl, rfl⟩) | fail)
                go_region_with (first | (go_at_call_of 6 (Value.int .i64 1); refine (timer_Step 1 (now + F k) _ _ _ _ _ _ _ _ _ _ _).mono ?_; rintro e w1 ⟨rfl, hb⟩; rw [Hsa.out]; obtain ⟨l2, d2, rfl⟩ := more_of hb; clear hb) | (go_at_call_of 6 (Value.int .i64 2); refine (timer_Step 2 (now + F k) _ _ _ _ _ _ _ _ _ _ _).mono ?_; rintro e w1 ⟨rfl, hb⟩; rw [Hsb.out]; obtain ⟨l3, d3, rfl⟩ := more_of hb; clear hb))
                all_goals
                  go_wp2_with fail
                  obtain ⟨W, hW⟩ : ∃ W, W = wmore ((w.alloc (.cells #[.int .i64 (bnum false), .int .i64 pt, .int .i64 (bnum (false)), .int .i64 a3, .int .i64 a4, .int .i64 a5, .int .i64 0, .int .i64 0, .int .i64 0, .int .i64 0] 24)).alloc (.cells #[.int .i64 (bnum false), .int .i64 pt, .int .i64 (bnum (false)), .int .i64 b3, .int .i64 b4, .int .i64 b5, .int .i64 0, .int .i64 0, .int .i64 0, .int .i64 0] 24)) (l ++ (l2 ++ l3)) d3 := ⟨_, rfl⟩
                  have c2 : W.cell? ⟨w.heap.size, 2, none⟩ = some (.int .i64 (bnum (false))) := by rw [hW, more_cell _ _ _ (by simp <;> omega), cell_past (by simp), cell_at rfl]; rfl
                  have c3 : W.cell? ⟨w.heap.size + 1, 2, none⟩ = some (.int .i64 (bnum (false))) := by rw [hW, more_cell _ _ _ (by simp), cell_at (by simp)]; rfl
                  have HW := Lib.hid hW
                  first | rw [← hW] | (rw [Array.append_assoc]; rw [← hW])
                  clear hW
                  go_quiet ((go_at_call 10; exact Calls.quiet_of_same (law08_on _ _)))
                  go_wp2_with fail
                  go_roundw
                  case rel => exact ⟨k + 1, now + F k, now + F k, false, false, by omega, by go_num, rfl, rfl, rfl, rfl, by omega, _, _, a3, a4, a5, b3, b4, b5, _, _, HI.out, by rw [Hea.out, show tofQ pt (now + F k) (now + F k) false false = _ from Heb.out, HW.out, more_drewN]⟩
                  case measure => simp [intOf]; omega
              · have es : dSince k (now + F k) since false false = since := by simp [dSince, hk3]
                have ek : ((k : Int) == 0) = false := by rw [beq_eq_false_iff_ne]; omega
                have hz0 : 0 ≤ since ∧ since ≤ now + F k := by omega
                obtain ⟨g, hg⟩ : ∃ g : Bool, decide (pt ≤ now + F k - since) = g := ⟨_, rfl⟩
                have hg' : decide (pt ≤ now + F k - (since)) = g := by exact hg
                have ea : tonQ pt (now + F k) (since) false = bnum (false) := by simp [tonQ, hg, hg']
                have eb : tofQ pt (now + F k) (since) false (false || false) = bnum (false) := by simp [tofQ, hg, hg']
                rw [es, ea] at hsa
                rw [es, eb] at hsb
                rw [es] at hI2
                have Hsa := Lib.hid hsa
                have Hsb := Lib.hid hsb
                have HI := Lib.hid hI2
                have Hea := Lib.hid ea
                have Heb := Lib.hid eb
                clear hsa hsb hI2 ea eb es hk3 hk0 hg'
                go_wp2_with (first | (go_at_call 10; refine (law08_on _ _).mono ?_; rintro e w' ⟨rfl, rfl⟩) | fail)
                go_region_with (first | (go_at_call_of 6 (Value.int .i64 1); refine (timer_Step 1 (now + F k) _ _ _ _ _ _ _ _ _ _ _).mono ?_; rintro e w1 ⟨rfl, hb⟩; rw [Hsa.out]; obtain ⟨l2, d2, rfl⟩ := more_of hb; clear hb) | (go_at_call_of 6 (Value.int .i64 2); refine (timer_Step 2 (now + F k) _ _ _ _ _ _ _ _ _ _ _).mono ?_; rintro e w1 ⟨rfl, hb⟩; rw [Hsb.out]; obtain ⟨l3, d3, rfl⟩ := more_of hb; clear hb))
                all_goals
                  go_wp2_with fail
                  obtain ⟨W, hW⟩ : ∃ W, W = wmore ((w.alloc (.cells #[.int .i64 (bnum false), .int .i64 pt, .int .i64 (bnum (false)), .int .i64 a3, .int .i64 a4, .int .i64 a5, .int .i64 0, .int .i64 0, .int .i64 0, .int .i64 0] 24)).alloc (.cells #[.int .i64 (bnum false), .int .i64 pt, .int .i64 (bnum (false)), .int .i64 b3, .int .i64 b4, .int .i64 b5, .int .i64 0, .int .i64 0, .int .i64 0, .int .i64 0] 24)) (l ++ (l2 ++ l3)) d3 := ⟨_, rfl⟩
                  have c2 : W.cell? ⟨w.heap.size, 2, none⟩ = some (.int .i64 (bnum (false))) := by rw [hW, more_cell _ _ _ (by simp <;> omega), cell_past (by simp), cell_at rfl]; rfl
                  have c3 : W.cell? ⟨w.heap.size + 1, 2, none⟩ = some (.int .i64 (bnum (false))) := by rw [hW, more_cell _ _ _ (by simp), cell_at (by simp)]; rfl
                  have HW := Lib.hid hW
                  first | rw [← hW] | (rw [Array.append_assoc]; rw [← hW])
                  clear hW
                  go_quiet ((go_at_call 10; exact Calls.quiet_of_same (law08_on _ _)))
                  go_wp2_with fail
                  go_roundw
                  case rel => exact ⟨k + 1, now + F k, since, false, false, by omega, by go_num, rfl, rfl, rfl, rfl, by omega, _, _, a3, a4, a5, b3, b4, b5, _, _, HI.out, by rw [Hea.out, show tofQ pt (now + F k) (since) false false = _ from Heb.out, HW.out, more_drewN]⟩
                  case measure => simp [intOf]; omega
            · rcases hk3 with hk3 | hk3
              · have es : dSince k (now + F k) since false true = now + F k := by simp [dSince]
                have ek : ((k : Int) == 0) = true := by simp [hk3]
                have hz0 : 0 ≤ now + F k ∧ now + F k ≤ now + F k := by omega
                obtain ⟨g, hg⟩ : ∃ g : Bool, decide (pt ≤ 0) = g := ⟨_, rfl⟩
                have hg' : decide (pt ≤ now + F k - (now + F k)) = g := by rw [← hg]; congr 1; apply propext; omega
                have ea : tonQ pt (now + F k) (now + F k) true = bnum (g) := by simp [tonQ, hg, hg']
                have eb : tofQ pt (now + F k) (now + F k) true (false || true) = bnum (true) := by simp [tofQ, hg, hg']
                rw [es, ea] at hsa
                rw [es, eb] at hsb
                rw [es] at hI2
                have Hsa := Lib.hid hsa
                have Hsb := Lib.hid hsb
                have HI := Lib.hid hI2
                have Hea := Lib.hid ea
                have Heb := Lib.hid eb
                clear hsa hsb hI2 ea eb es hk3 hk0 hg'
                go_wp2_with (first | (go_at_call 10; refine (law08_on _ _).mono ?_; rintro e w' ⟨rfl, rfl⟩) | fail)
                go_region_with (first | (go_at_call_of 6 (Value.int .i64 1); refine (timer_Step 1 (now + F k) _ _ _ _ _ _ _ _ _ _ _).mono ?_; rintro e w1 ⟨rfl, hb⟩; rw [Hsa.out]; obtain ⟨l2, d2, rfl⟩ := more_of hb; clear hb) | (go_at_call_of 6 (Value.int .i64 2); refine (timer_Step 2 (now + F k) _ _ _ _ _ _ _ _ _ _ _).mono ?_; rintro e w1 ⟨rfl, hb⟩; rw [Hsb.out]; obtain ⟨l3, d3, rfl⟩ := more_of hb; clear hb))
                all_goals
                  go_wp2_with fail
                  obtain ⟨W, hW⟩ : ∃ W, W = wmore ((w.alloc (.cells #[.int .i64 (bnum true), .int .i64 pt, .int .i64 (bnum (g)), .int .i64 a3, .int .i64 a4, .int .i64 a5, .int .i64 0, .int .i64 0, .int .i64 0, .int .i64 0] 24)).alloc (.cells #[.int .i64 (bnum true), .int .i64 pt, .int .i64 (bnum (true)), .int .i64 b3, .int .i64 b4, .int .i64 b5, .int .i64 0, .int .i64 0, .int .i64 0, .int .i64 0] 24)) (l ++ (l2 ++ l3)) d3 := ⟨_, rfl⟩
                  have c2 : W.cell? ⟨w.heap.size, 2, none⟩ = some (.int .i64 (bnum (g))) := by rw [hW, more_cell _ _ _ (by simp <;> omega), cell_past (by simp), cell_at rfl]; rfl
                  have c3 : W.cell? ⟨w.heap.size + 1, 2, none⟩ = some (.int .i64 (bnum (true))) := by rw [hW, more_cell _ _ _ (by simp), cell_at (by simp)]; rfl
                  have HW := Lib.hid hW
                  first | rw [← hW] | (rw [Array.append_assoc]; rw [← hW])
                  clear hW
                  go_quiet ((go_at_call 10; exact Calls.quiet_of_same (law08_on _ _)))
                  go_wp2_with fail
                  go_roundw
                  case rel => exact ⟨k + 1, now + F k, now + F k, true, true, by omega, by go_num, rfl, rfl, rfl, rfl, by omega, _, _, a3, a4, a5, b3, b4, b5, _, _, HI.out, by rw [Hea.out, show tofQ pt (now + F k) (now + F k) true true = _ from Heb.out, HW.out, more_drewN]⟩
                  case measure => simp [intOf]; omega
              · have es : dSince k (now + F k) since false true = now + F k := by simp [dSince]
                have ek : ((k : Int) == 0) = false := by rw [beq_eq_false_iff_ne]; omega
                have hz0 : 0 ≤ now + F k ∧ now + F k ≤ now + F k := by omega
                obtain ⟨g, hg⟩ : ∃ g : Bool, decide (pt ≤ 0) = g := ⟨_, rfl⟩
                have hg' : decide (pt ≤ now + F k - (now + F k)) = g := by rw [← hg]; congr 1; apply propext; omega
                have ea : tonQ pt (now + F k) (now + F k) true = bnum (g) := by simp [tonQ, hg, hg']
                have eb : tofQ pt (now + F k) (now + F k) true (false || true) = bnum (true) := by simp [tofQ, hg, hg']
                rw [es, ea] at hsa
                rw [es, eb] at hsb
                rw [es] at hI2
                have Hsa := Lib.hid hsa
                have Hsb := Lib.hid hsb
                have HI := Lib.hid hI2
                have Hea := Lib.hid ea
                have Heb := Lib.hid eb
                clear hsa hsb hI2 ea eb es hk3 hk0 hg'
                go_wp2_with (first | (go_at_call 10; refine (law08_on _ _).mono ?_; rintro e w' ⟨rfl, rfl⟩) | fail)
                go_region_with (first | (go_at_call_of 6 (Value.int .i64 1); refine (timer_Step 1 (now + F k) _ _ _ _ _ _ _ _ _ _ _).mono ?_; rintro e w1 ⟨rfl, hb⟩; rw [Hsa.out]; obtain ⟨l2, d2, rfl⟩ := more_of hb; clear hb) | (go_at_call_of 6 (Value.int .i64 2); refine (timer_Step 2 (now + F k) _ _ _ _ _ _ _ _ _ _ _).mono ?_; rintro e w1 ⟨rfl, hb⟩; rw [Hsb.out]; obtain ⟨l3, d3, rfl⟩ := more_of hb; clear hb))
                all_goals
                  go_wp2_with fail
                  obtain ⟨W, hW⟩ : ∃ W, W = wmore ((w.alloc (.cells #[.int .i64 (bnum true), .int .i64 pt, .int .i64 (bnum (g)), .int .i64 a3, .int .i64 a4, .int .i64 a5, .int .i64 0, .int .i64 0, .int .i64 0, .int .i64 0] 24)).alloc (.cells #[.int .i64 (bnum true), .int .i64 pt, .int .i64 (bnum (true)), .int .i64 b3, .int .i64 b4, .int .i64 b5, .int .i64 0, .int .i64 0, .int .i64 0, .int .i64 0] 24)) (l ++ (l2 ++ l3)) d3 := ⟨_, rfl⟩
                  have c2 : W.cell? ⟨w.heap.size, 2, none⟩ = some (.int .i64 (bnum (g))) := by rw [hW, more_cell _ _ _ (by simp <;> omega), cell_past (by simp), cell_at rfl]; rfl
                  have c3 : W.cell? ⟨w.heap.size + 1, 2, none⟩ = some (.int .i64 (bnum (true))) := by rw [hW, more_cell _ _ _ (by simp), cell_at (by simp)]; rfl
                  have HW := Lib.hid hW
                  first | rw [← hW] | (rw [Array.append_assoc]; rw [← hW])
                  clear hW
                  go_quiet ((go_at_call 10; exact Calls.quiet_of_same (law08_on _ _)))
                  go_wp2_with fail
                  go_roundw
                  case rel => exact ⟨k + 1, now + F k, now + F k, true, true, by omega, by go_num, rfl, rfl, rfl, rfl, by omega, _, _, a3, a4, a5, b3, b4, b5, _, _, HI.out, by rw [Hea.out, show tofQ pt (now + F k) (now + F k) true true = _ from Heb.out, HW.out, more_drewN]⟩
                  case measure => simp [intOf]; omega
          · cases on
            · rcases hk3 with hk3 | hk3
              · have := hk0 hk3; simp at this
              · have es : dSince k (now + F k) since true false = now + F k := by simp [dSince]
                have ek : ((k : Int) == 0) = false := by rw [beq_eq_false_iff_ne]; omega
                have hz0 : 0 ≤ now + F k ∧ now + F k ≤ now + F k := by omega
                obtain ⟨g, hg⟩ : ∃ g : Bool, decide (pt ≤ 0) = g := ⟨_, rfl⟩
                have hg' : decide (pt ≤ now + F k - (now + F k)) = g := by rw [← hg]; congr 1; apply propext; omega
                have ea : tonQ pt (now + F k) (now + F k) false = bnum (false) := by simp [tonQ, hg, hg']
                have eb : tofQ pt (now + F k) (now + F k) false (true || false) = bnum (!g) := by simp [tofQ, hg, hg']
                rw [es, ea] at hsa
                rw [es, eb] at hsb
                rw [es] at hI2
                have Hsa := Lib.hid hsa
                have Hsb := Lib.hid hsb
                have HI := Lib.hid hI2
                have Hea := Lib.hid ea
                have Heb := Lib.hid eb
                clear hsa hsb hI2 ea eb es hk3 hk0 hg'
                go_wp2_with (first | (go_at_call 10; refine (law08_on _ _).mono ?_; rintro e w' ⟨rfl, rfl⟩) | fail)
                go_region_with (first | (go_at_call_of 6 (Value.int .i64 1); refine (timer_Step 1 (now + F k) _ _ _ _ _ _ _ _ _ _ _).mono ?_; rintro e w1 ⟨rfl, hb⟩; rw [Hsa.out]; obtain ⟨l2, d2, rfl⟩ := more_of hb; clear hb) | (go_at_call_of 6 (Value.int .i64 2); refine (timer_Step 2 (now + F k) _ _ _ _ _ _ _ _ _ _ _).mono ?_; rintro e w1 ⟨rfl, hb⟩; rw [Hsb.out]; obtain ⟨l3, d3, rfl⟩ := more_of hb; clear hb))
                all_goals
                  go_wp2_with fail
                  obtain ⟨W, hW⟩ : ∃ W, W = wmore ((w.alloc (.cells #[.int .i64 (bnum false), .int .i64 pt, .int .i64 (bnum (false)), .int .i64 a3, .int .i64 a4, .int .i64 a5, .int .i64 0, .int .i64 0, .int .i64 0, .int .i64 0] 24)).alloc (.cells #[.int .i64 (bnum false), .int .i64 pt, .int .i64 (bnum (!g)), .int .i64 b3, .int .i64 b4, .int .i64 b5, .int .i64 0, .int .i64 0, .int .i64 0, .int .i64 0] 24)) (l ++ (l2 ++ l3)) d3 := ⟨_, rfl⟩
                  have c2 : W.cell? ⟨w.heap.size, 2, none⟩ = some (.int .i64 (bnum (false))) := by rw [hW, more_cell _ _ _ (by simp <;> omega), cell_past (by simp), cell_at rfl]; rfl
                  have c3 : W.cell? ⟨w.heap.size + 1, 2, none⟩ = some (.int .i64 (bnum (!g))) := by rw [hW, more_cell _ _ _ (by simp), cell_at (by simp)]; rfl
                  have HW := Lib.hid hW
                  first | rw [← hW] | (rw [Array.append_assoc]; rw [← hW])
                  clear hW
                  go_quiet ((go_at_call 10; exact Calls.quiet_of_same (law08_on _ _)))
                  go_wp2_with fail
                  go_roundw
                  case rel => exact ⟨k + 1, now + F k, now + F k, false, true, by omega, by go_num, rfl, rfl, rfl, rfl, by omega, _, _, a3, a4, a5, b3, b4, b5, _, _, HI.out, by rw [Hea.out, show tofQ pt (now + F k) (now + F k) false true = _ from Heb.out, HW.out, more_drewN]⟩
                  case measure => simp [intOf]; omega
            · rcases hk3 with hk3 | hk3
              · have := hk0 hk3; simp at this
              · have es : dSince k (now + F k) since true true = since := by simp [dSince, hk3]
                have ek : ((k : Int) == 0) = false := by rw [beq_eq_false_iff_ne]; omega
                have hz0 : 0 ≤ since ∧ since ≤ now + F k := by omega
                obtain ⟨g, hg⟩ : ∃ g : Bool, decide (pt ≤ now + F k - since) = g := ⟨_, rfl⟩
                have hg' : decide (pt ≤ now + F k - (since)) = g := by exact hg
                have ea : tonQ pt (now + F k) (since) true = bnum (g) := by simp [tonQ, hg, hg']
                have eb : tofQ pt (now + F k) (since) true (true || true) = bnum (true) := by simp [tofQ, hg, hg']
                rw [es, ea] at hsa
                rw [es, eb] at hsb
                rw [es] at hI2
                have Hsa := Lib.hid hsa
                have Hsb := Lib.hid hsb
                have HI := Lib.hid hI2
                have Hea := Lib.hid ea
                have Heb := Lib.hid eb
                clear hsa hsb hI2 ea eb es hk3 hk0 hg'
                go_wp2_with (first | (go_at_call 10; refine (law08_on _ _).mono ?_; rintro e w' ⟨rfl, rfl⟩) | fail)
                go_region_with (first | (go_at_call_of 6 (Value.int .i64 1); refine (timer_Step 1 (now + F k) _ _ _ _ _ _ _ _ _ _ _).mono ?_; rintro e w1 ⟨rfl, hb⟩; rw [Hsa.out]; obtain ⟨l2, d2, rfl⟩ := more_of hb; clear hb) | (go_at_call_of 6 (Value.int .i64 2); refine (timer_Step 2 (now + F k) _ _ _ _ _ _ _ _ _ _ _).mono ?_; rintro e w1 ⟨rfl, hb⟩; rw [Hsb.out]; obtain ⟨l3, d3, rfl⟩ := more_of hb; clear hb))
                all_goals
                  go_wp2_with fail
                  obtain ⟨W, hW⟩ : ∃ W, W = wmore ((w.alloc (.cells #[.int .i64 (bnum true), .int .i64 pt, .int .i64 (bnum (g)), .int .i64 a3, .int .i64 a4, .int .i64 a5, .int .i64 0, .int .i64 0, .int .i64 0, .int .i64 0] 24)).alloc (.cells #[.int .i64 (bnum true), .int .i64 pt, .int .i64 (bnum (true)), .int .i64 b3, .int .i64 b4, .int .i64 b5, .int .i64 0, .int .i64 0, .int .i64 0, .int .i64 0] 24)) (l ++ (l2 ++ l3)) d3 := ⟨_, rfl⟩
                  have c2 : W.cell? ⟨w.heap.size, 2, none⟩ = some (.int .i64 (bnum (g))) := by rw [hW, more_cell _ _ _ (by simp <;> omega), cell_past (by simp), cell_at rfl]; rfl
                  have c3 : W.cell? ⟨w.heap.size + 1, 2, none⟩ = some (.int .i64 (bnum (true))) := by rw [hW, more_cell _ _ _ (by simp), cell_at (by simp)]; rfl
                  have HW := Lib.hid hW
                  first | rw [← hW] | (rw [Array.append_assoc]; rw [← hW])
                  clear hW
                  go_quiet ((go_at_call 10; exact Calls.quiet_of_same (law08_on _ _)))
                  go_wp2_with fail
                  go_roundw
                  case rel => exact ⟨k + 1, now + F k, since, true, true, by omega, by go_num, rfl, rfl, rfl, rfl, by omega, _, _, a3, a4, a5, b3, b4, b5, _, _, HI.out, by rw [Hea.out, show tofQ pt (now + F k) (since) true true = _ from Heb.out, HW.out, more_drewN]⟩
                  case measure => simp [intOf]; omega
          · cases on
            · rcases hk3 with hk3 | hk3
              · have := hk0 hk3; simp at this
              · have es : dSince k (now + F k) since false false = since := by simp [dSince, hk3]
                have ek : ((k : Int) == 0) = false := by rw [beq_eq_false_iff_ne]; omega
                have hz0 : 0 ≤ since ∧ since ≤ now + F k := by omega
                obtain ⟨g, hg⟩ : ∃ g : Bool, decide (pt ≤ now + F k - since) = g := ⟨_, rfl⟩
                have hg' : decide (pt ≤ now + F k - (since)) = g := by exact hg
                have ea : tonQ pt (now + F k) (since) false = bnum (false) := by simp [tonQ, hg, hg']
                have eb : tofQ pt (now + F k) (since) false (true || false) = bnum (!g) := by simp [tofQ, hg, hg']
                rw [es, ea] at hsa
                rw [es, eb] at hsb
                rw [es] at hI2
                have Hsa := Lib.hid hsa
                have Hsb := Lib.hid hsb
                have HI := Lib.hid hI2
                have Hea := Lib.hid ea
                have Heb := Lib.hid eb
                clear hsa hsb hI2 ea eb es hk3 hk0 hg'
                go_wp2_with (first | (go_at_call 10; refine (law08_on _ _).mono ?_; rintro e w' ⟨rfl, rfl⟩) | fail)
                go_region_with (first | (go_at_call_of 6 (Value.int .i64 1); refine (timer_Step 1 (now + F k) _ _ _ _ _ _ _ _ _ _ _).mono ?_; rintro e w1 ⟨rfl, hb⟩; rw [Hsa.out]; obtain ⟨l2, d2, rfl⟩ := more_of hb; clear hb) | (go_at_call_of 6 (Value.int .i64 2); refine (timer_Step 2 (now + F k) _ _ _ _ _ _ _ _ _ _ _).mono ?_; rintro e w1 ⟨rfl, hb⟩; rw [Hsb.out]; obtain ⟨l3, d3, rfl⟩ := more_of hb; clear hb))
                all_goals
                  go_wp2_with fail
                  obtain ⟨W, hW⟩ : ∃ W, W = wmore ((w.alloc (.cells #[.int .i64 (bnum false), .int .i64 pt, .int .i64 (bnum (false)), .int .i64 a3, .int .i64 a4, .int .i64 a5, .int .i64 0, .int .i64 0, .int .i64 0, .int .i64 0] 24)).alloc (.cells #[.int .i64 (bnum false), .int .i64 pt, .int .i64 (bnum (!g)), .int .i64 b3, .int .i64 b4, .int .i64 b5, .int .i64 0, .int .i64 0, .int .i64 0, .int .i64 0] 24)) (l ++ (l2 ++ l3)) d3 := ⟨_, rfl⟩
                  have c2 : W.cell? ⟨w.heap.size, 2, none⟩ = some (.int .i64 (bnum (false))) := by rw [hW, more_cell _ _ _ (by simp <;> omega), cell_past (by simp), cell_at rfl]; rfl
                  have c3 : W.cell? ⟨w.heap.size + 1, 2, none⟩ = some (.int .i64 (bnum (!g))) := by rw [hW, more_cell _ _ _ (by simp), cell_at (by simp)]; rfl
                  have HW := Lib.hid hW
                  first | rw [← hW] | (rw [Array.append_assoc]; rw [← hW])
                  clear hW
                  go_quiet ((go_at_call 10; exact Calls.quiet_of_same (law08_on _ _)))
                  go_wp2_with fail
                  go_roundw
                  case rel => exact ⟨k + 1, now + F k, since, false, true, by omega, by go_num, rfl, rfl, rfl, rfl, by omega, _, _, a3, a4, a5, b3, b4, b5, _, _, HI.out, by rw [Hea.out, show tofQ pt (now + F k) (since) false true = _ from Heb.out, HW.out, more_drewN]⟩
                  case measure => simp [intOf]; omega
            · rcases hk3 with hk3 | hk3
              · have := hk0 hk3; simp at this
              · have es : dSince k (now + F k) since false true = now + F k := by simp [dSince]
                have ek : ((k : Int) == 0) = false := by rw [beq_eq_false_iff_ne]; omega
                have hz0 : 0 ≤ now + F k ∧ now + F k ≤ now + F k := by omega
                obtain ⟨g, hg⟩ : ∃ g : Bool, decide (pt ≤ 0) = g := ⟨_, rfl⟩
                have hg' : decide (pt ≤ now + F k - (now + F k)) = g := by rw [← hg]; congr 1; apply propext; omega
                have ea : tonQ pt (now + F k) (now + F k) true = bnum (g) := by simp [tonQ, hg, hg']
                have eb : tofQ pt (now + F k) (now + F k) true (true || true) = bnum (true) := by simp [tofQ, hg, hg']
                rw [es, ea] at hsa
                rw [es, eb] at hsb
                rw [es] at hI2
                have Hsa := Lib.hid hsa
                have Hsb := Lib.hid hsb
                have HI := Lib.hid hI2
                have Hea := Lib.hid ea
                have Heb := Lib.hid eb
                clear hsa hsb hI2 ea eb es hk3 hk0 hg'
                go_wp2_with (first | (go_at_call 10; refine (law08_on _ _).mono ?_; rintro e w' ⟨rfl, rfl⟩) | fail)
                go_region_with (first | (go_at_call_of 6 (Value.int .i64 1); refine (timer_Step 1 (now + F k) _ _ _ _ _ _ _ _ _ _ _).mono ?_; rintro e w1 ⟨rfl, hb⟩; rw [Hsa.out]; obtain ⟨l2, d2, rfl⟩ := more_of hb; clear hb) | (go_at_call_of 6 (Value.int .i64 2); refine (timer_Step 2 (now + F k) _ _ _ _ _ _ _ _ _ _ _).mono ?_; rintro e w1 ⟨rfl, hb⟩; rw [Hsb.out]; obtain ⟨l3, d3, rfl⟩ := more_of hb; clear hb))
                all_goals
                  go_wp2_with fail
                  obtain ⟨W, hW⟩ : ∃ W, W = wmore ((w.alloc (.cells #[.int .i64 (bnum true), .int .i64 pt, .int .i64 (bnum (g)), .int .i64 a3, .int .i64 a4, .int .i64 a5, .int .i64 0, .int .i64 0, .int .i64 0, .int .i64 0] 24)).alloc (.cells #[.int .i64 (bnum true), .int .i64 pt, .int .i64 (bnum (true)), .int .i64 b3, .int .i64 b4, .int .i64 b5, .int .i64 0, .int .i64 0, .int .i64 0, .int .i64 0] 24)) (l ++ (l2 ++ l3)) d3 := ⟨_, rfl⟩
                  have c2 : W.cell? ⟨w.heap.size, 2, none⟩ = some (.int .i64 (bnum (g))) := by rw [hW, more_cell _ _ _ (by simp <;> omega), cell_past (by simp), cell_at rfl]; rfl
                  have c3 : W.cell? ⟨w.heap.size + 1, 2, none⟩ = some (.int .i64 (bnum (true))) := by rw [hW, more_cell _ _ _ (by simp), cell_at (by simp)]; rfl
                  have HW := Lib.hid hW
                  first | rw [← hW] | (rw [Array.append_assoc]; rw [← hW])
                  clear hW
                  go_quiet ((go_at_call 10; exact Calls.quiet_of_same (law08_on _ _)))
                  go_wp2_with fail
                  go_roundw
                  case rel => exact ⟨k + 1, now + F k, now + F k, true, true, by omega, by go_num, rfl, rfl, rfl, rfl, by omega, _, _, a3, a4, a5, b3, b4, b5, _, _, HI.out, by rw [Hea.out, show tofQ pt (now + F k) (now + F k) true true = _ from Heb.out, HW.out, more_drewN]⟩
                  case measure => simp [intOf]; omega
        · obtain rfl : k = n := by omega
          go_wp2_with fail
          refine (law08_awake _).mono ?_; rintro e w1 ⟨rfl, hb⟩
          have hB : Below w.heap.size w w1 := Below.trans (by (repeat' (first | (with_reducible exact Below.refl _ _) | (with_reducible assumption) | (with_reducible refine more_below ?_ ?_ _ _) | (with_reducible refine below_drewN ?_ _) | (with_reducible refine Below.alloc ?_ ?_ _) | (with_reducible refine Below.drew ?_) | (with_reducible refine Below.setCell ?_ ?_ _) | (simp only [World.size_alloc, World.size_setCell, World.size_drew, more_size, World.heap_drewN]; omega) | go_size))) (hb.mono (by rw [more_size]; simp; omega))
          go_wp2_with fail
          go_ret
          exact ⟨rfl, hB⟩
end Go.Proofs.Ytpgmjjjfacfibaa
