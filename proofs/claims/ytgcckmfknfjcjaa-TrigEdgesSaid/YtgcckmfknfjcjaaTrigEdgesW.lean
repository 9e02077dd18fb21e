/- Layer 10: the walk of TrigEdges. -/
import Derived.Test.YtgcckmfknfjcjaaTrigEdge
namespace Go.Proofs.Ytgcckmfknfjcjaa
open Go.RowKit
set_option linter.unusedSimpArgs false
set_option linter.unusedVariables false
def TWorld (w : World) (c : Int) (wr : World) : Prop :=
  ∃ a0 a1 b0 b1 l d, wr = wmore ((w.alloc (.cells #[.int .i64 a0, .int .i64 a1, .int .i64 c, .int .i64 0, .int .i64 0, .int .i64 0, .int .i64 0, .int .i64 0, .int .i64 0, .int .i64 0] 24)).alloc (.cells #[.int .i64 b0, .int .i64 b1, .int .i64 c, .int .i64 0, .int .i64 0, .int .i64 0, .int .i64 0, .int .i64 0, .int .i64 0, .int .i64 0] 24)) l d
set_option maxRecDepth 100000 in
set_option maxHeartbeats 16000000 in
theorem trigEdges_walk (v : Value) (n : Nat) (G : Nat → Bool) (w : World) (hv : RowAt w v n (fun i => .bool (G i))) :
    Calls Try.prog 4 #[v] w fun e w' => e = .returned (.bool true) ∧ Below w.heap.size w w' := by
  have mc := @more_cell
  have mf := @more_frozen
  have ms := @more_set
  have mm := more_more
  have md := more_drewN
  have md1 := more_drew
  have mcp := @cell_past
  have HV : ∀ w', Below w.heap.size w w' → RowAt w' v n (fun i => .bool (G i)) := fun w' hb => hv.below hb
  have HV2 := Lib.hid HV
  clear HV
  obtain ⟨u1, u2, u3, u4⟩ := ups_bd G n
  have hud := ups_downs G n
  have hbn : bnum (prv G n) = 0 ∨ bnum (prv G n) = 1 := by cases prv G n <;> simp [bnum]
  have hu5 : 0 ≤ ups G n - downs G n := by omega
  have hu6 : ups G n - downs G n ≤ 1 := by omega
  clear hud hbn
  rcases hv with ⟨a, cap, rfl, rfl, _⟩ | ⟨b, off, cap, rfl, h1, h2, h3, h4, hcell⟩
  · go_enter Try.func4, Try.ntmps4
    go_wp2_with fail
    refine wp_loop_rounds 1 ?_
    rw [rounds_succ]
    go_wp2_with fail
    refine (trig_Edges _ 0 G _ (by omega) (HV2.out _ (by (repeat' (first | (with_reducible exact Below.refl _ _) | (with_reducible assumption) | (with_reducible refine more_below ?_ ?_ _ _) | (with_reducible refine below_drewN ?_ _) | (with_reducible refine Below.alloc ?_ ?_ _) | (with_reducible refine Below.drew ?_) | (with_reducible refine Below.setCell ?_ ?_ _) | (simp only [World.size_alloc, World.size_setCell, World.size_drew, more_size, World.heap_drewN]; omega) | go_size))))).mono ?_; rintro e w' ⟨rfl, rfl⟩
    go_wp2_with fail
    refine (law10_awake _).mono ?_; rintro e w1 ⟨rfl, hb⟩
    have hB : Below w.heap.size w w1 := Below.trans (by (repeat' (first | (with_reducible exact Below.refl _ _) | (with_reducible assumption) | (with_reducible refine more_below ?_ ?_ _ _) | (with_reducible refine below_drewN ?_ _) | (with_reducible refine Below.alloc ?_ ?_ _) | (with_reducible refine Below.drew ?_) | (with_reducible refine Below.setCell ?_ ?_ _) | (simp only [World.size_alloc, World.size_setCell, World.size_drew, more_size, World.heap_drewN]; omega) | go_size))) (hb.mono (by first | omega | (simp [more_size] <;> omega)))
    go_wp2_with fail
    go_ret
    exact ⟨rfl, hB⟩
  · have h3' : cap ≤ 9223372036854775807 := by unfold maxLen at h3; omega
    have hb1 : b < w.heap.size + 1 := by omega
    have hb2 : b < w.heap.size + 1 + 1 := by omega
    by_cases hn : 200 < n
    · go_enter Try.func4, Try.ntmps4
      go_wp2_with fail
      refine (law10_awake _).mono ?_; rintro e w1 ⟨rfl, hb⟩
      go_wp2_with fail
      go_ret
      exact ⟨rfl, hb⟩
    · go_enter Try.func4, Try.ntmps4
      go_wp2_with fail
      go_loopw [5, 6, 7] (fun s5 s6 s7 wr => ∃ k : Nat, k ≤ n ∧ s7 = .int .i64 k ∧ s5 = .int .i64 (ups G k) ∧ s6 = .int .i64 (downs G k) ∧ TWorld w (bnum (prv G k)) wr) (fun _ _ s7 _ => n - (intOf s7).toNat)
      case atStart => exact ⟨0, by omega, rfl, rfl, rfl, 0, 0, 0, 0, #[], _, more_start _⟩
      case round =>
        obtain ⟨k, hk, rfl, rfl, rfl, a0, a1, b0, b1, l, d, rfl⟩ := hrel
        by_cases hlt : k < n
        · have hc := hcell k hlt
          obtain ⟨v1, v2, v3, v4⟩ := ups_bd G k
          have HU := Lib.hid (show ups G (k + 1) = ups G k + bnum (G k && !prv G k) from rfl)
          have HD := Lib.hid (show downs G (k + 1) = downs G k + bnum (prv G k && !G k) from rfl)
          have HP := Lib.hid (show prv G (k + 1) = G k from rfl)
          have hz1 : 0 ≤ bnum (G k && !prv G k) ∧ bnum (G k && !prv G k) ≤ 1 := by cases (G k && !prv G k) <;> simp [bnum]
          have hz2 : 0 ≤ bnum (prv G k && !G k) ∧ bnum (prv G k && !G k) ≤ 1 := by cases (prv G k && !G k) <;> simp [bnum]
          obtain ⟨z1, z2⟩ := hz1
          obtain ⟨z3, z4⟩ := hz2
          clear hcell hu5 hu6 u1 u2 u3 u4
          generalize G k = g at *
          generalize prv G k = p at *
          generalize ups G k = u at *
          generalize downs G k = f at *
          cases g <;> cases p
          · have H7 := Lib.hid (show ∀ x, tgA 7 0 x (bnum false) = 0 by intro x; simp [tgA, tgIs, tg1, bnum])
            have H7b := Lib.hid (show tgB 7 0 (bnum false) = bnum false by simp [tgB, tgIs, tg2, bnum])
            have H8 := Lib.hid (show ∀ x, tgA 8 0 x (bnum false) = 0 by intro x; simp [tgA, tgIs, tg1, bnum])
            have H8b := Lib.hid (show tgB 8 0 (bnum false) = bnum false by simp [tgB, tgIs, tg2, bnum])
            go_wp2_with fail
            go_region_with (first | (go_at_call_of 5 (Value.int .i64 7); refine (trig_Step 7 _ _ _ _ _ _ _ _ _ _ _).mono ?_; rintro e w1 ⟨rfl, hb⟩; rw [H7.out, H7b.out]; obtain ⟨l2, d2, rfl⟩ := more_of hb; clear hb) | (go_at_call_of 5 (Value.int .i64 8); refine (trig_Step 8 _ _ _ _ _ _ _ _ _ _ _).mono ?_; rintro e w1 ⟨rfl, hb⟩; rw [H8.out, H8b.out]; obtain ⟨l3, d3, rfl⟩ := more_of hb; clear hb))
            all_goals
              go_wp2_with fail
              obtain ⟨W, hW⟩ : ∃ W, W = wmore ((w.alloc (.cells #[.int .i64 0, .int .i64 0, .int .i64 (bnum false), .int .i64 0, .int .i64 0, .int .i64 0, .int .i64 0, .int .i64 0, .int .i64 0, .int .i64 0] 24)).alloc (.cells #[.int .i64 0, .int .i64 0, .int .i64 (bnum false), .int .i64 0, .int .i64 0, .int .i64 0, .int .i64 0, .int .i64 0, .int .i64 0, .int .i64 0] 24)) (l ++ (l2 ++ l3)) d3 := ⟨_, rfl⟩
              have c2 : W.cell? ⟨w.heap.size, 1, none⟩ = some (.int .i64 0) := by rw [hW, more_cell _ _ _ (by simp <;> omega), cell_past (by simp), cell_at rfl]; rfl
              have c3 : W.cell? ⟨w.heap.size + 1, 1, none⟩ = some (.int .i64 0) := by rw [hW, more_cell _ _ _ (by simp), cell_at (by simp)]; rfl
              have HW := Lib.hid hW
              first | rw [← hW] | (rw [Array.append_assoc]; rw [← hW])
              clear hW
              have w1 := IntWalk.i64_in (u + 0) (by omega)
              have w2 := IntWalk.i64_in (f + 0) (by omega)
              go_quiet (fail)
              clear w1 w2
              go_wp2_with fail
              go_roundw
              case rel => exact ⟨k + 1, by omega, by go_num, by rw [HU.out]; simp [bnum], by rw [HD.out]; simp [bnum], by rw [HP.out]; exact ⟨_, _, _, _, _, _, by rw [HW.out, more_drewN]⟩⟩
              case measure => simp [intOf]; omega
          · have H7 := Lib.hid (show ∀ x, tgA 7 0 x (bnum true) = 0 by intro x; simp [tgA, tgIs, tg1, bnum])
            have H7b := Lib.hid (show tgB 7 0 (bnum true) = bnum false by simp [tgB, tgIs, tg2, bnum])
            have H8 := Lib.hid (show ∀ x, tgA 8 0 x (bnum true) = 1 by intro x; simp [tgA, tgIs, tg1, bnum])
            have H8b := Lib.hid (show tgB 8 0 (bnum true) = bnum false by simp [tgB, tgIs, tg2, bnum])
            go_wp2_with fail
            go_region_with (first | (go_at_call_of 5 (Value.int .i64 7); refine (trig_Step 7 _ _ _ _ _ _ _ _ _ _ _).mono ?_; rintro e w1 ⟨rfl, hb⟩; rw [H7.out, H7b.out]; obtain ⟨l2, d2, rfl⟩ := more_of hb; clear hb) | (go_at_call_of 5 (Value.int .i64 8); refine (trig_Step 8 _ _ _ _ _ _ _ _ _ _ _).mono ?_; rintro e w1 ⟨rfl, hb⟩; rw [H8.out, H8b.out]; obtain ⟨l3, d3, rfl⟩ := more_of hb; clear hb))
            all_goals
              go_wp2_with fail
              obtain ⟨W, hW⟩ : ∃ W, W = wmore ((w.alloc (.cells #[.int .i64 0, .int .i64 0, .int .i64 (bnum false), .int .i64 0, .int .i64 0, .int .i64 0, .int .i64 0, .int .i64 0, .int .i64 0, .int .i64 0] 24)).alloc (.cells #[.int .i64 0, .int .i64 1, .int .i64 (bnum false), .int .i64 0, .int .i64 0, .int .i64 0, .int .i64 0, .int .i64 0, .int .i64 0, .int .i64 0] 24)) (l ++ (l2 ++ l3)) d3 := ⟨_, rfl⟩
              have c2 : W.cell? ⟨w.heap.size, 1, none⟩ = some (.int .i64 0) := by rw [hW, more_cell _ _ _ (by simp <;> omega), cell_past (by simp), cell_at rfl]; rfl
              have c3 : W.cell? ⟨w.heap.size + 1, 1, none⟩ = some (.int .i64 1) := by rw [hW, more_cell _ _ _ (by simp), cell_at (by simp)]; rfl
              have HW := Lib.hid hW
              first | rw [← hW] | (rw [Array.append_assoc]; rw [← hW])
              clear hW
              have w1 := IntWalk.i64_in (u + 0) (by omega)
              have w2 := IntWalk.i64_in (f + 1) (by omega)
              go_quiet (fail)
              clear w1 w2
              go_wp2_with fail
              go_roundw
              case rel => exact ⟨k + 1, by omega, by go_num, by rw [HU.out]; simp [bnum], by rw [HD.out]; simp [bnum], by rw [HP.out]; exact ⟨_, _, _, _, _, _, by rw [HW.out, more_drewN]⟩⟩
              case measure => simp [intOf]; omega
          · have H7 := Lib.hid (show ∀ x, tgA 7 5 x (bnum false) = 1 by intro x; simp [tgA, tgIs, tg1, bnum])
            have H7b := Lib.hid (show tgB 7 5 (bnum false) = bnum true by simp [tgB, tgIs, tg2, bnum])
            have H8 := Lib.hid (show ∀ x, tgA 8 1 x (bnum false) = 0 by intro x; simp [tgA, tgIs, tg1, bnum])
            have H8b := Lib.hid (show tgB 8 1 (bnum false) = bnum true by simp [tgB, tgIs, tg2, bnum])
            go_wp2_with fail
            go_region_with (first | (go_at_call_of 5 (Value.int .i64 7); refine (trig_Step 7 _ _ _ _ _ _ _ _ _ _ _).mono ?_; rintro e w1 ⟨rfl, hb⟩; rw [H7.out, H7b.out]; obtain ⟨l2, d2, rfl⟩ := more_of hb; clear hb) | (go_at_call_of 5 (Value.int .i64 8); refine (trig_Step 8 _ _ _ _ _ _ _ _ _ _ _).mono ?_; rintro e w1 ⟨rfl, hb⟩; rw [H8.out, H8b.out]; obtain ⟨l3, d3, rfl⟩ := more_of hb; clear hb))
            all_goals
              go_wp2_with fail
              obtain ⟨W, hW⟩ : ∃ W, W = wmore ((w.alloc (.cells #[.int .i64 5, .int .i64 1, .int .i64 (bnum true), .int .i64 0, .int .i64 0, .int .i64 0, .int .i64 0, .int .i64 0, .int .i64 0, .int .i64 0] 24)).alloc (.cells #[.int .i64 1, .int .i64 0, .int .i64 (bnum true), .int .i64 0, .int .i64 0, .int .i64 0, .int .i64 0, .int .i64 0, .int .i64 0, .int .i64 0] 24)) (l ++ (l2 ++ l3)) d3 := ⟨_, rfl⟩
              have c2 : W.cell? ⟨w.heap.size, 1, none⟩ = some (.int .i64 1) := by rw [hW, more_cell _ _ _ (by simp <;> omega), cell_past (by simp), cell_at rfl]; rfl
              have c3 : W.cell? ⟨w.heap.size + 1, 1, none⟩ = some (.int .i64 0) := by rw [hW, more_cell _ _ _ (by simp), cell_at (by simp)]; rfl
              have HW := Lib.hid hW
              first | rw [← hW] | (rw [Array.append_assoc]; rw [← hW])
              clear hW
              have w1 := IntWalk.i64_in (u + 1) (by omega)
              have w2 := IntWalk.i64_in (f + 0) (by omega)
              go_quiet (fail)
              clear w1 w2
              go_wp2_with fail
              go_roundw
              case rel => exact ⟨k + 1, by omega, by go_num, by rw [HU.out]; simp [bnum], by rw [HD.out]; simp [bnum], by rw [HP.out]; exact ⟨_, _, _, _, _, _, by rw [HW.out, more_drewN]⟩⟩
              case measure => simp [intOf]; omega
          · have H7 := Lib.hid (show ∀ x, tgA 7 5 x (bnum true) = 0 by intro x; simp [tgA, tgIs, tg1, bnum])
            have H7b := Lib.hid (show tgB 7 5 (bnum true) = bnum true by simp [tgB, tgIs, tg2, bnum])
            have H8 := Lib.hid (show ∀ x, tgA 8 1 x (bnum true) = 0 by intro x; simp [tgA, tgIs, tg1, bnum])
            have H8b := Lib.hid (show tgB 8 1 (bnum true) = bnum true by simp [tgB, tgIs, tg2, bnum])
            go_wp2_with fail
            go_region_with (first | (go_at_call_of 5 (Value.int .i64 7); refine (trig_Step 7 _ _ _ _ _ _ _ _ _ _ _).mono ?_; rintro e w1 ⟨rfl, hb⟩; rw [H7.out, H7b.out]; obtain ⟨l2, d2, rfl⟩ := more_of hb; clear hb) | (go_at_call_of 5 (Value.int .i64 8); refine (trig_Step 8 _ _ _ _ _ _ _ _ _ _ _).mono ?_; rintro e w1 ⟨rfl, hb⟩; rw [H8.out, H8b.out]; obtain ⟨l3, d3, rfl⟩ := more_of hb; clear hb))
            all_goals
              go_wp2_with fail
              obtain ⟨W, hW⟩ : ∃ W, W = wmore ((w.alloc (.cells #[.int .i64 5, .int .i64 0, .int .i64 (bnum true), .int .i64 0, .int .i64 0, .int .i64 0, .int .i64 0, .int .i64 0, .int .i64 0, .int .i64 0] 24)).alloc (.cells #[.int .i64 1, .int .i64 0, .int .i64 (bnum true), .int .i64 0, .int .i64 0, .int .i64 0, .int .i64 0, .int .i64 0, .int .i64 0, .int .i64 0] 24)) (l ++ (l2 ++ l3)) d3 := ⟨_, rfl⟩
              have c2 : W.cell? ⟨w.heap.size, 1, none⟩ = some (.int .i64 0) := by rw [hW, more_cell _ _ _ (by simp <;> omega), cell_past (by simp), cell_at rfl]; rfl
              have c3 : W.cell? ⟨w.heap.size + 1, 1, none⟩ = some (.int .i64 0) := by rw [hW, more_cell _ _ _ (by simp), cell_at (by simp)]; rfl
              have HW := Lib.hid hW
              first | rw [← hW] | (rw [Array.append_assoc]; rw [← hW])
              clear hW
              have w1 := IntWalk.i64_in (u + 0) (by omega)
              have w2 := IntWalk.i64_in (f + 0) (by omega)
              go_quiet (fail)
              clear w1 w2
              go_wp2_with fail
              go_roundw
              case rel => exact ⟨k + 1, by omega, by go_num, by rw [HU.out]; simp [bnum], by rw [HD.out]; simp [bnum], by rw [HP.out]; exact ⟨_, _, _, _, _, _, by rw [HW.out, more_drewN]⟩⟩
              case measure => simp [intOf]; omega
        · obtain rfl : k = n := by omega
          go_wp2_with fail
          refine (trig_Edges _ k G _ (by omega) (HV2.out _ (by (repeat' (first | (with_reducible exact Below.refl _ _) | (with_reducible assumption) | (with_reducible refine more_below ?_ ?_ _ _) | (with_reducible refine below_drewN ?_ _) | (with_reducible refine Below.alloc ?_ ?_ _) | (with_reducible refine Below.drew ?_) | (with_reducible refine Below.setCell ?_ ?_ _) | (simp only [World.size_alloc, World.size_setCell, World.size_drew, more_size, World.heap_drewN]; omega) | go_size))))).mono ?_; rintro e w' ⟨rfl, rfl⟩
          go_wp2_with fail
          refine (law10_awake _).mono ?_; rintro e w1 ⟨rfl, hb⟩
          have hB : Below w.heap.size w w1 := Below.trans (by (repeat' (first | (with_reducible exact Below.refl _ _) | (with_reducible assumption) | (with_reducible refine more_below ?_ ?_ _ _) | (with_reducible refine below_drewN ?_ _) | (with_reducible refine Below.alloc ?_ ?_ _) | (with_reducible refine Below.drew ?_) | (with_reducible refine Below.setCell ?_ ?_ _) | (simp only [World.size_alloc, World.size_setCell, World.size_drew, more_size, World.heap_drewN]; omega) | go_size))) (hb.mono (by first | omega | (simp [more_size] <;> omega)))
          go_wp2_with fail
          go_ret
          exact ⟨rfl, hB⟩
end Go.Proofs.Ytgcckmfknfjcjaa
