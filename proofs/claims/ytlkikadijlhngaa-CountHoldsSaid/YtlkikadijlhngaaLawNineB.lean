/- Layer 9: the walk of CountHolds. -/
import Derived.Test.YtlkikadijlhngaaLawNine
import Derived.Test.YtlkikadijlhngaaMoreB
import Derived.Test.YtlkikadijlhngaaHoldsQ
namespace Go.Proofs.Ytlkikadijlhngaa
open Go.RowKit
set_option linter.unusedSimpArgs false
set_option linter.unusedVariables false
def Stop (P : Prop) : Prop := P
theorem stop_here {P : Prop} (h : Stop P) : P := h
theorem holds_a (x0 x1 x2 x3 x4 x5 x6 x7 x8 x9 : Int) (w : World) (hb : ∀ x ∈ [x4, x7], -9223372036854775808 ≤ x ∧ x ≤ 9223372036854775807) : Calls Try.prog 6 #[.int .i64 4, .agg #[.int .i64 x0, .int .i64 (1), .int .i64 x2, .int .i64 x3, .int .i64 x4, .int .i64 x5, .int .i64 x6, .int .i64 x7, .int .i64 x8, .int .i64 x9]] w
    fun e w' => e = .returned (.agg #[.int .i64 x0, .int .i64 (1), .int .i64 x2, .int .i64 (bnum (decide (x2 ≤ 0))), .int .i64 (0), .int .i64 (bnum (x0 != 0)), .int .i64 x6, .int .i64 x7, .int .i64 x8, .int .i64 x9]) ∧ Below w.heap.size w w' := by
  have h := count_Step 4 x0 (1) x2 x3 x4 x5 x6 x7 x8 x9 w hb
  have e : ctStep 4 x0 (1) x2 x3 x4 x5 x6 x7 x8 x9 = .agg #[.int .i64 x0, .int .i64 (1), .int .i64 x2, .int .i64 (bnum (decide (x2 ≤ 0))), .int .i64 (0), .int .i64 (bnum (x0 != 0)), .int .i64 x6, .int .i64 x7, .int .i64 x8, .int .i64 x9] := by simp [ctStep, u4]
  rw [e] at h
  exact h
theorem holds_b (x0 x1 x2 x3 x4 x5 x6 x7 x8 x9 : Int) (w : World) (hb : ∀ x ∈ [x4, x7], -9223372036854775808 ≤ x ∧ x ≤ 9223372036854775807) : Calls Try.prog 6 #[.int .i64 5, .agg #[.int .i64 x0, .int .i64 (1), .int .i64 x2, .int .i64 x3, .int .i64 x4, .int .i64 x5, .int .i64 x6, .int .i64 x7, .int .i64 x8, .int .i64 x9]] w
    fun e w' => e = .returned (.agg #[.int .i64 x0, .int .i64 (1), .int .i64 x2, .int .i64 (bnum (decide (x2 ≤ 0))), .int .i64 (x2), .int .i64 (bnum (x0 != 0)), .int .i64 x6, .int .i64 x7, .int .i64 x8, .int .i64 x9]) ∧ Below w.heap.size w w' := by
  have h := count_Step 5 x0 (1) x2 x3 x4 x5 x6 x7 x8 x9 w hb
  have e : ctStep 5 x0 (1) x2 x3 x4 x5 x6 x7 x8 x9 = .agg #[.int .i64 x0, .int .i64 (1), .int .i64 x2, .int .i64 (bnum (decide (x2 ≤ 0))), .int .i64 (x2), .int .i64 (bnum (x0 != 0)), .int .i64 x6, .int .i64 x7, .int .i64 x8, .int .i64 x9] := by simp [ctStep, d4]
  rw [e] at h
  exact h
theorem holds_c (x0 x1 x2 x3 x4 x5 x6 x7 x8 x9 : Int) (w : World) (hb : ∀ x ∈ [x4, x7], -9223372036854775808 ≤ x ∧ x ≤ 9223372036854775807) : Calls Try.prog 6 #[.int .i64 6, .agg #[.int .i64 x0, .int .i64 x1, .int .i64 (1), .int .i64 x3, .int .i64 x4, .int .i64 x5, .int .i64 x6, .int .i64 x7, .int .i64 x8, .int .i64 x9]] w
    fun e w' => e = .returned (.agg #[.int .i64 x0, .int .i64 x1, .int .i64 (1), .int .i64 x3, .int .i64 x4, .int .i64 (bnum (decide (x4 ≤ 0))), .int .i64 (1), .int .i64 (0), .int .i64 (bnum (x0 != 0)), .int .i64 (bnum (x1 != 0))]) ∧ Below w.heap.size w w' := by
  have h := count_Step 6 x0 x1 (1) x3 x4 x5 x6 x7 x8 x9 w hb
  have e : ctStep 6 x0 x1 (1) x3 x4 x5 x6 x7 x8 x9 = .agg #[.int .i64 x0, .int .i64 x1, .int .i64 (1), .int .i64 x3, .int .i64 x4, .int .i64 (bnum (decide (x4 ≤ 0))), .int .i64 (1), .int .i64 (0), .int .i64 (bnum (x0 != 0)), .int .i64 (bnum (x1 != 0))] := by simp [ctStep, b7, bnum]
  rw [e] at h
  exact h
theorem holds_d (x0 x1 x2 x3 x4 x5 x6 x7 x8 x9 : Int) (w : World) (hb : ∀ x ∈ [x4, x7], -9223372036854775808 ≤ x ∧ x ≤ 9223372036854775807) : Calls Try.prog 6 #[.int .i64 6, .agg #[.int .i64 x0, .int .i64 x1, .int .i64 (0), .int .i64 (1), .int .i64 x4, .int .i64 x5, .int .i64 x6, .int .i64 x7, .int .i64 x8, .int .i64 x9]] w
    fun e w' => e = .returned (.agg #[.int .i64 x0, .int .i64 x1, .int .i64 (0), .int .i64 (1), .int .i64 x4, .int .i64 (1), .int .i64 (bnum (decide (x4 ≤ 0))), .int .i64 (x4), .int .i64 (bnum (x0 != 0)), .int .i64 (bnum (x1 != 0))]) ∧ Below w.heap.size w w' := by
  have h := count_Step 6 x0 x1 (0) (1) x4 x5 x6 x7 x8 x9 w hb
  have e : ctStep 6 x0 x1 (0) (1) x4 x5 x6 x7 x8 x9 = .agg #[.int .i64 x0, .int .i64 x1, .int .i64 (0), .int .i64 (1), .int .i64 x4, .int .i64 (1), .int .i64 (bnum (decide (x4 ≤ 0))), .int .i64 (x4), .int .i64 (bnum (x0 != 0)), .int .i64 (bnum (x1 != 0))] := by simp [ctStep, b7, bnum]
  rw [e] at h
  exact h
set_option maxRecDepth 100000 in
set_option maxHeartbeats 4000000 in
theorem countHolds_walk (x0 x1 x2 x3 x4 x5 x6 x7 x8 x9 : Int) (w : World) (hb : ∀ x ∈ [x4, x7], -9223372036854775808 ≤ x ∧ x ≤ 9223372036854775807) : Calls Try.prog 5 #[.agg #[.int .i64 x0, .int .i64 x1, .int .i64 x2, .int .i64 x3, .int .i64 x4, .int .i64 x5, .int .i64 x6, .int .i64 x7, .int .i64 x8, .int .i64 x9]] w
    fun e w' => e = .returned (.bool true) ∧ Below w.heap.size w w' := by
  have HB := Lib.hid hb
  clear hb
  go_enter Try.func5, Try.ntmps5
  go_wp2
  obtain ⟨W1, hW1⟩ : ∃ W1, W1 = w.alloc (.cells #[.int .i64 x0, .int .i64 x1, .int .i64 x2, .int .i64 x3, .int .i64 x4, .int .i64 x5, .int .i64 x6, .int .i64 x7, .int .i64 x8, .int .i64 x9] 24) := ⟨_, rfl⟩
  have HX : W1.heap[w.heap.size]? = some (.cells #[.int .i64 x0, .int .i64 x1, .int .i64 x2, .int .i64 x3, .int .i64 x4, .int .i64 x5, .int .i64 x6, .int .i64 x7, .int .i64 x8, .int .i64 x9] 24 (0, 0)) := by rw [hW1]; exact heap_alloc_new w _
  have hB1 : Below w.heap.size w W1 := by rw [hW1]; exact (Below.refl _ _).alloc (Nat.le_refl _) _
  have hl1 : w.heap.size < W1.heap.size := heap_lt HX
  rw [← hW1]
  clear hW1
  refine Code.wp_mono ?_ (holds_r1 W1 w.heap.size x0 x1 x2 x3 x4 x5 x6 x7 x8 x9 hl1 HX _ _ _ _ _ _ _ _ _ _ _ _ _ _ _ _ _ _ _ _ _ _ _ _ _ _ _ _ _ _ _ _ _ _ _ _ _ _ _ _ _ _ _ _ _ _ _ _ _ _ _ _ _ _ _ _ _ _ _ _ _ _ _ _ _ _ _ _ _ _ _ _ _ _ _ _ _ _ _ _ _ _ _ _ _ _ _ _ _ _ _ _ _)
  rintro e bb v ⟨rfl, u3, u4, u10, u11, rfl, hH1, ⟨q3, rfl, y3, z3⟩, ⟨q4, rfl, y4, z4⟩, k3, ⟨k4, hap⟩⟩
  have k3 := k3 q3 rfl
  have k4 := k4 q4 rfl
  have hap := hap q3 rfl
  have hne : q3 ≠ q4 := fun e => hap (by rw [e])
  have c3 := cell_of' k3 1 (v := .int .i64 x1) rfl
  have f3 := free_of' k3 1
  have c4 := cell_of' k4 1 (v := .int .i64 x1) rfl
  have f4 := free_of' k4 1
  have HXv := (hH1.block _ hl1).trans HX
  have HK := Lib.hid (And.intro k3 (And.intro k4 HXv))
  have hne' : q4 ≠ q3 := fun e => hne e.symm
  clear k3 k4 HXv hap HX
  go_wp2
  obtain ⟨k3, k4, HXv⟩ := HK.out
  have r3 : ((v.setCell ⟨q3, 1, none⟩ (.int .i64 1)).setCell ⟨q4, 1, none⟩ (.int .i64 1)).heap[q3]? = some (.cells #[.int .i64 x0, .int .i64 1, .int .i64 x2, .int .i64 x3, .int .i64 x4, .int .i64 x5, .int .i64 x6, .int .i64 x7, .int .i64 x8, .int .i64 x9] 24 (0, 0)) := (Below.heap_setCell _ _ _ _ hne).trans (setc_at k3 1 _ _ rfl)
  have r4 : ((v.setCell ⟨q3, 1, none⟩ (.int .i64 1)).setCell ⟨q4, 1, none⟩ (.int .i64 1)).heap[q4]? = some (.cells #[.int .i64 x0, .int .i64 1, .int .i64 x2, .int .i64 x3, .int .i64 x4, .int .i64 x5, .int .i64 x6, .int .i64 x7, .int .i64 x8, .int .i64 x9] 24 (0, 0)) := setc_at ((Below.heap_setCell _ _ _ _ hne').trans k4) 1 _ _ rfl
  have rx : ((v.setCell ⟨q3, 1, none⟩ (.int .i64 1)).setCell ⟨q4, 1, none⟩ (.int .i64 1)).heap[w.heap.size]? = some (.cells #[.int .i64 x0, .int .i64 x1, .int .i64 x2, .int .i64 x3, .int .i64 x4, .int .i64 x5, .int .i64 x6, .int .i64 x7, .int .i64 x8, .int .i64 x9] 24 (0, 0)) := (Below.heap_setCell _ _ _ _ (by simp; omega)).trans ((Below.heap_setCell _ _ _ _ (by simp; omega)).trans HXv)
  have hB2 : Below w.heap.size w ((v.setCell ⟨q3, 1, none⟩ (.int .i64 1)).setCell ⟨q4, 1, none⟩ (.int .i64 1)) := Below.setCell (Below.setCell (hB1.trans (hH1.mono (by omega))) (p := ⟨q3, 1, none⟩) (by simp; omega) _) (p := ⟨q4, 1, none⟩) (by simp; omega) _
  obtain ⟨W2, hW2⟩ : ∃ W2, W2 = (v.setCell ⟨q3, 1, none⟩ (.int .i64 1)).setCell ⟨q4, 1, none⟩ (.int .i64 1) := ⟨_, rfl⟩
  rw [← hW2] at r3 r4 rx hB2 ⊢
  clear hW2 HK k3 k4 HXv c3 f3 c4 f4
  have z2 := hB2.size
  have hx2 := heap_lt rx
  refine Code.wp_mono ?_ (holds_r4 W2 q3 q4 x0 1 x2 x3 x4 x5 x6 x7 x8 x9 x0 1 x2 x3 x4 x5 x6 x7 x8 x9 x0 1 x2 (bnum (decide (x2 ≤ 0))) 0 (bnum (x0 != 0)) x6 x7 x8 x9 x0 1 x2 (bnum (decide (x2 ≤ 0))) x2 (bnum (x0 != 0)) x6 x7 x8 x9 (heap_lt r3) (heap_lt r4) r3 r4 (Lib.hid (fun W' => holds_a x0 x1 x2 x3 x4 x5 x6 x7 x8 x9 W' HB.out)) (Lib.hid (fun W' => holds_b x0 x1 x2 x3 x4 x5 x6 x7 x8 x9 W' HB.out)) _ _ _ _ _ _ _ _ _ _ _ _ _ _ _ _ _ _ _ _ _ _ _ _ _ _ _ _ _ _ _ _ _ _ _ _ _ _ _ _ _ _ _ _ _ _ _ _ _ _ _ _ _ _ _ _ _ _ _ _ _ _ _ _ _ _ _ _ _ _ _ _ _ _ _ _ _ _ _ _ _ _ _ _ _ _ _ _ _ _ _ _)
  rintro e bb v2 ⟨rfl, u5, u6, u16, u17, u18, u19, rfl, hH2, ⟨q5, rfl, y5, z5⟩, ⟨q6, rfl, y6, z6⟩, k5, k6⟩
  have k5 := k5 q5 rfl
  have k6 := k6 q6 rfl
  have rx := (hH2.block _ hx2).trans rx
  have hB3 := hB2.trans (hH2.mono z2)
  have m0 := cell_of' rx 0 (v := .int .i64 x0) rfl
  have m1 := cell_of' rx 1 (v := .int .i64 x1) rfl
  have m2 := cell_of' rx 2 (v := .int .i64 x2) rfl
  have m3 := cell_of' rx 3 (v := .int .i64 x3) rfl
  have m4 := cell_of' rx 4 (v := .int .i64 x4) rfl
  have m5 := cell_of' rx 5 (v := .int .i64 x5) rfl
  have m6 := cell_of' rx 6 (v := .int .i64 x6) rfl
  have m7 := cell_of' rx 7 (v := .int .i64 x7) rfl
  have m8 := cell_of' rx 8 (v := .int .i64 x8) rfl
  have m9 := cell_of' rx 9 (v := .int .i64 x9) rfl
  have n53 := cell_of' k5 3 (v := .int .i64 (bnum (decide (x2 ≤ 0)))) rfl
  have n54 := cell_of' k5 4 (v := .int .i64 0) rfl
  have n63 := cell_of' k6 3 (v := .int .i64 (bnum (decide (x2 ≤ 0)))) rfl
  have n64 := cell_of' k6 4 (v := .int .i64 x2) rfl
  have HK := Lib.hid (And.intro k5 (And.intro k6 rx))
  clear k5 k6 rx r3 r4
  have hz : decide (x2 ≤ 0) = true ∧ bnum (decide (x2 ≤ 0)) = 1 ∨ decide (x2 ≤ 0) = false ∧ bnum (decide (x2 ≤ 0)) = 0 := by cases decide (x2 ≤ 0) <;> simp [bnum]
  go_wp2_with (first | (go_at_call 6; go_loud (refine (holds_c x0 x1 x2 x3 x4 x5 x6 x7 x8 x9 _ HB.out).mono ?_; rintro e w5 ⟨rfl, hb5⟩; refine stop_here ?_)) | fail)
  obtain ⟨k5, k6, rx⟩ := HK.out
  have lx := heap_lt rx
  have s5 := hb5.size
  have zz5 : v2.heap.size + 1 ≤ w5.heap.size := by simpa using s5
  have e7 := (hb5.block v2.heap.size (by simp)).trans (heap_alloc_new v2 _)
  have e5 := (hb5.block q5 (by simp; omega)).trans (alloc_stay k5)
  have e6 := (hb5.block q6 (by simp; omega)).trans (alloc_stay k6)
  have ex := (hb5.block w.heap.size (by simp; omega)).trans (alloc_stay rx)
  have hB5 : Below w.heap.size w w5 := (hB3.alloc hB3.size _).trans (hb5.mono (by simp; omega))
  have n1 : q5 ≠ v2.heap.size := by omega
  have n2 : q6 ≠ v2.heap.size := by omega
  have n3 : w.heap.size ≠ v2.heap.size := by omega
  have n4 : w5.heap.size ≠ v2.heap.size := by omega
  have HH := Lib.hid (And.intro e7 (And.intro e5 (And.intro e6 (And.intro ex hB5))))
  clear m0 m1 m2 m3 m4 m5 m6 m7 m8 m9 n53 n54 n63 n64 k5 k6 rx s5 e7 e5 e6 ex hB5 hb5 hH2 hB3 HK hB2 hH1 hB1
  unfold Stop
  repeat ((fail_if_success (apply wp_region_lit)); go_step)
  obtain ⟨W7, hW7⟩ : ∃ W7, W7 = w5.alloc (.cells #[.int .i64 x0, .int .i64 x1, .int .i64 1, .int .i64 x3, .int .i64 x4, .int .i64 (bnum (decide (x4 ≤ 0))), .int .i64 1, .int .i64 0, .int .i64 (bnum (x0 != 0)), .int .i64 (bnum (x1 != 0))] 24) := ⟨_, rfl⟩
  obtain ⟨e7, e5, e6, ex, hB5⟩ := HH.out
  have e7 := alloc_stay (x := (.cells #[.int .i64 x0, .int .i64 x1, .int .i64 1, .int .i64 x3, .int .i64 x4, .int .i64 (bnum (decide (x4 ≤ 0))), .int .i64 1, .int .i64 0, .int .i64 (bnum (x0 != 0)), .int .i64 (bnum (x1 != 0))] 24)) e7
  have e5 := alloc_stay (x := (.cells #[.int .i64 x0, .int .i64 x1, .int .i64 1, .int .i64 x3, .int .i64 x4, .int .i64 (bnum (decide (x4 ≤ 0))), .int .i64 1, .int .i64 0, .int .i64 (bnum (x0 != 0)), .int .i64 (bnum (x1 != 0))] 24)) e5
  have e6 := alloc_stay (x := (.cells #[.int .i64 x0, .int .i64 x1, .int .i64 1, .int .i64 x3, .int .i64 x4, .int .i64 (bnum (decide (x4 ≤ 0))), .int .i64 1, .int .i64 0, .int .i64 (bnum (x0 != 0)), .int .i64 (bnum (x1 != 0))] 24)) e6
  have ex := alloc_stay (x := (.cells #[.int .i64 x0, .int .i64 x1, .int .i64 1, .int .i64 x3, .int .i64 x4, .int .i64 (bnum (decide (x4 ≤ 0))), .int .i64 1, .int .i64 0, .int .i64 (bnum (x0 != 0)), .int .i64 (bnum (x1 != 0))] 24)) ex
  have e8 := heap_alloc_new w5 (.cells #[.int .i64 x0, .int .i64 x1, .int .i64 1, .int .i64 x3, .int .i64 x4, .int .i64 (bnum (decide (x4 ≤ 0))), .int .i64 1, .int .i64 0, .int .i64 (bnum (x0 != 0)), .int .i64 (bnum (x1 != 0))] 24)
  have hB7 : Below w.heap.size w W7 := by rw [hW7]; exact hB5.alloc hB5.size _
  rw [← hW7] at e7 e5 e6 ex e8 ⊢
  have f2 := free_of' e7 2
  have c2 := cell_of' e7 2 (v := .int .i64 1) rfl
  have d7 := setc_at e7 2 (.int .i64 0) _ rfl
  have e5 := (Below.heap_setCell W7 ⟨v2.heap.size, 2, none⟩ (.int .i64 0) _ (by intro h; exact n1 h)).trans e5
  have e6 := (Below.heap_setCell W7 ⟨v2.heap.size, 2, none⟩ (.int .i64 0) _ (by intro h; exact n2 h)).trans e6
  have ex := (Below.heap_setCell W7 ⟨v2.heap.size, 2, none⟩ (.int .i64 0) _ (by intro h; exact n3 h)).trans ex
  have e8 := (Below.heap_setCell W7 ⟨v2.heap.size, 2, none⟩ (.int .i64 0) _ (by intro h; exact n4 h)).trans e8
  have hB8 := Below.setCell hB7 (p := ⟨v2.heap.size, 2, none⟩) (by simp; omega) (.int .i64 0)
  have HH := Lib.hid (And.intro d7 (And.intro e5 (And.intro e6 (And.intro ex (And.intro e8 hB8)))))
  clear e7 e5 e6 ex e8 hB7 hB8 d7 hB5 hW7
  go_step
  repeat ((fail_if_success (apply wp_region_lit)); go_step)
  obtain ⟨d7, e5, e6, ex, e8, hB8⟩ := HH.out
  obtain ⟨W8, hW8⟩ : ∃ W8, W8 = W7.setCell ⟨v2.heap.size, 2, none⟩ (.int .i64 0) := ⟨_, rfl⟩
  rw [← hW8] at d7 e5 e6 ex e8 hB8 ⊢
  have f3 := free_of' d7 3
  have c3 := cell_of' d7 3 (v := .int .i64 x3) rfl
  have d8 := setc_at d7 3 (.int .i64 1) _ rfl
  have e5 := (Below.heap_setCell W8 ⟨v2.heap.size, 3, none⟩ (.int .i64 1) _ (by intro h; exact n1 h)).trans e5
  have e6 := (Below.heap_setCell W8 ⟨v2.heap.size, 3, none⟩ (.int .i64 1) _ (by intro h; exact n2 h)).trans e6
  have ex := (Below.heap_setCell W8 ⟨v2.heap.size, 3, none⟩ (.int .i64 1) _ (by intro h; exact n3 h)).trans ex
  have e8 := (Below.heap_setCell W8 ⟨v2.heap.size, 3, none⟩ (.int .i64 1) _ (by intro h; exact n4 h)).trans e8
  have hB9 := Below.setCell hB8 (p := ⟨v2.heap.size, 3, none⟩) (by simp; omega) (.int .i64 1)
  have HH := Lib.hid (And.intro d8 (And.intro e5 (And.intro e6 (And.intro ex (And.intro e8 hB9)))))
  clear e5 e6 ex e8 hB8 hB9 d7 d8 hW8 f2 c2
  go_step
  repeat ((fail_if_success (apply wp_region_lit)); go_step)
  obtain ⟨d8, e5, e6, ex, e8, hB9⟩ := HH.out
  obtain ⟨W9, hW9⟩ : ∃ W9, W9 = W8.setCell ⟨v2.heap.size, 3, none⟩ (.int .i64 1) := ⟨_, rfl⟩
  rw [← hW9] at d8 e5 e6 ex e8 hB9 ⊢
  have m0 := cell_of' d8 0 (v := .int .i64 x0) rfl
  have m1 := cell_of' d8 1 (v := .int .i64 x1) rfl
  have m2 := cell_of' d8 2 (v := .int .i64 0) rfl
  have m3 := cell_of' d8 3 (v := .int .i64 1) rfl
  have m4 := cell_of' d8 4 (v := .int .i64 x4) rfl
  have m5 := cell_of' d8 5 (v := .int .i64 x5) rfl
  have m6 := cell_of' d8 6 (v := .int .i64 x6) rfl
  have m7 := cell_of' d8 7 (v := .int .i64 x7) rfl
  have m8 := cell_of' d8 8 (v := .int .i64 x8) rfl
  have m9 := cell_of' d8 9 (v := .int .i64 x9) rfl
  have HH := Lib.hid (And.intro e5 (And.intro e6 (And.intro ex (And.intro e8 hB9))))
  clear e5 e6 ex e8 hB9 d8 hW9 f3 c3
  go_wp2_with (first | (go_at_call 6; go_loud (refine (holds_d x0 x1 x2 x3 x4 x5 x6 x7 x8 x9 _ HB.out).mono ?_; rintro e w6 ⟨rfl, hb6⟩; refine stop_here ?_)) | fail)
  obtain ⟨e5, e6, ex, e8, hB9⟩ := HH.out
  have j5 := alloc_stay (x := (.cells #[.int .i64 x0, .int .i64 x1, .int .i64 0, .int .i64 1, .int .i64 x4, .int .i64 1, .int .i64 (bnum (decide (x4 ≤ 0))), .int .i64 x4, .int .i64 (bnum (x0 != 0)), .int .i64 (bnum (x1 != 0))] 24)) ((hb6.block q5 (heap_lt e5)).trans e5)
  have j6 := alloc_stay (x := (.cells #[.int .i64 x0, .int .i64 x1, .int .i64 0, .int .i64 1, .int .i64 x4, .int .i64 1, .int .i64 (bnum (decide (x4 ≤ 0))), .int .i64 x4, .int .i64 (bnum (x0 != 0)), .int .i64 (bnum (x1 != 0))] 24)) ((hb6.block q6 (heap_lt e6)).trans e6)
  have jx := alloc_stay (x := (.cells #[.int .i64 x0, .int .i64 x1, .int .i64 0, .int .i64 1, .int .i64 x4, .int .i64 1, .int .i64 (bnum (decide (x4 ≤ 0))), .int .i64 x4, .int .i64 (bnum (x0 != 0)), .int .i64 (bnum (x1 != 0))] 24)) ((hb6.block w.heap.size (heap_lt ex)).trans ex)
  have j8 := alloc_stay (x := (.cells #[.int .i64 x0, .int .i64 x1, .int .i64 0, .int .i64 1, .int .i64 x4, .int .i64 1, .int .i64 (bnum (decide (x4 ≤ 0))), .int .i64 x4, .int .i64 (bnum (x0 != 0)), .int .i64 (bnum (x1 != 0))] 24)) ((hb6.block w5.heap.size (heap_lt e8)).trans e8)
  have j9 := heap_alloc_new w6 (.cells #[.int .i64 x0, .int .i64 x1, .int .i64 0, .int .i64 1, .int .i64 x4, .int .i64 1, .int .i64 (bnum (decide (x4 ≤ 0))), .int .i64 x4, .int .i64 (bnum (x0 != 0)), .int .i64 (bnum (x1 != 0))] 24)
  have hB6 := hB9.trans (hb6.mono hB9.size)
  have HH := Lib.hid (And.intro j5 (And.intro j6 (And.intro jx (And.intro j8 (And.intro j9 hB6)))))
  clear e5 e6 ex e8 hB9 hb6 j5 j6 jx j8 j9 hB6 m0 m1 m2 m3 m4 m5 m6 m7 m8 m9
  unfold Stop
  repeat ((fail_if_success (apply wp_region_lit)); go_step)
  obtain ⟨W10, hW10⟩ : ∃ W10, W10 = w6.alloc (.cells #[.int .i64 x0, .int .i64 x1, .int .i64 0, .int .i64 1, .int .i64 x4, .int .i64 1, .int .i64 (bnum (decide (x4 ≤ 0))), .int .i64 x4, .int .i64 (bnum (x0 != 0)), .int .i64 (bnum (x1 != 0))] 24) := ⟨_, rfl⟩
  obtain ⟨j5, j6, jx, j8, j9, hB6⟩ := HH.out
  have hB10 : Below w.heap.size w W10 := by rw [hW10]; exact hB6.alloc hB6.size _
  rw [← hW10] at j5 j6 jx j8 j9 ⊢
  have j5c3 := cell_of' j5 3 (v := .int .i64 (bnum (decide (x2 ≤ 0)))) rfl
  have j5c4 := cell_of' j5 4 (v := .int .i64 0) rfl
  have j6c3 := cell_of' j6 3 (v := .int .i64 (bnum (decide (x2 ≤ 0)))) rfl
  have j6c4 := cell_of' j6 4 (v := .int .i64 x2) rfl
  have jxc2 := cell_of' jx 2 (v := .int .i64 x2) rfl
  have jxc4 := cell_of' jx 4 (v := .int .i64 x4) rfl
  have j8c6 := cell_of' j8 6 (v := .int .i64 1) rfl
  have j8c7 := cell_of' j8 7 (v := .int .i64 0) rfl
  have j9c5 := cell_of' j9 5 (v := .int .i64 1) rfl
  have j9c7 := cell_of' j9 7 (v := .int .i64 x4) rfl
  clear hW10 HH j5 j6 jx j8 j9 hB6 k3 k4 hap k5 k6 rx
  rcases hz with ⟨hz, hy⟩ | ⟨hz, hy⟩
  all_goals
    rw [hy] at j5c3 j6c3
    go_wp2_with (first | (go_at_call 9; refine (law09_awake _).mono ?_; rintro e w9 ⟨rfl, hb9⟩) | fail)
    go_wp2_with fail
    go_ret
    exact ⟨rfl, hB10.trans (hb9.mono hB10.size)⟩
end Go.Proofs.Ytlkikadijlhngaa
