/- Layer 20: the law's awake. -/
import Derived.Test.YtnkmnmlhjanplaaBhProg
namespace Go.Proofs.Ytnkmnmlhjanplaa
open Go.RowKit
set_option linter.unusedSimpArgs false
set_option linter.unusedVariables false
set_option maxHeartbeats 4000000 in
theorem law20_awake (w : World) : Calls Try.prog 4 #[] w fun e w' => e = .returned (.bool true) ∧ Below w.heap.size w w' := by
  obtain ⟨W0, hW0⟩ : ∃ W0, W0 = w.alloc (.cells #[.int .i64 31, .int .i64 3, .int .i64 0, .int .i64 34, .int .i64 0, .int .i64 0, .int .i64 32, .int .i64 1, .int .i64 0] 25) := ⟨_, rfl⟩
  have hb0 : Below w.heap.size w W0 := by rw [hW0]; exact (Below.refl _ _).alloc (Nat.le_refl _) _
  have hR : RowR 3 insR W0 (.slice (some ⟨w.heap.size, 0, none⟩) 3 3) [(31, 3, 0), (34, 0, 0), (32, 1, 0)] := by
    have hB := fun j u hu => Boxed.new w [.int .i64 31, .int .i64 3, .int .i64 0, .int .i64 34, .int .i64 0, .int .i64 0, .int .i64 32, .int .i64 1, .int .i64 0] 25 (W' := W0) (by rw [hW0]; exact Below.refl _ _) j u hu
    refine Or.inr ⟨w.heap.size, 0, 3, rfl, by simp, by simp, by unfold maxLen; omega, by rw [hW0]; simp, fun i x hx => ?_⟩
    have hi : i < 3 := lt_of_get hx
    have hI : ∀ z : Int, 0 ≤ z ∧ z ≤ 40 → I64 z := fun z hz => by unfold I64; omega
    rcases (show i = 0 ∨ i = 1 ∨ i = 2 by omega) with rfl | rfl | rfl
    · obtain rfl : ((31, 3, 0) : Ins) = x := by simpa using hx
      refine ⟨[.int .i64 31, .int .i64 3, .int .i64 0], rfl, fun j u hu => ?_, rfl, hI _ (by decide), hI _ (by decide), hI _ (by decide)⟩
      have hj : j < 3 := lt_of_get hu
      rcases (show j = 0 ∨ j = 1 ∨ j = 2 by omega) with rfl | rfl | rfl <;> exact hB _ u hu
    · obtain rfl : ((34, 0, 0) : Ins) = x := by simpa using hx
      refine ⟨[.int .i64 34, .int .i64 0, .int .i64 0], rfl, fun j u hu => ?_, rfl, hI _ (by decide), hI _ (by decide), hI _ (by decide)⟩
      have hj : j < 3 := lt_of_get hu
      rcases (show j = 0 ∨ j = 1 ∨ j = 2 by omega) with rfl | rfl | rfl <;> exact hB _ u hu
    · obtain rfl : ((32, 1, 0) : Ins) = x := by simpa using hx
      refine ⟨[.int .i64 32, .int .i64 1, .int .i64 0], rfl, fun j u hu => ?_, rfl, hI _ (by decide), hI _ (by decide), hI _ (by decide)⟩
      have hj : j < 3 := lt_of_get hu
      rcases (show j = 0 ∨ j = 1 ∨ j = 2 by omega) with rfl | rfl | rfl <;> exact hB _ u hu
  have H0 : Hid (Calls Try.prog 6 #[.slice (some ⟨w.heap.size, 0, none⟩) 3 3, .int .i64 0] W0 fun e w' => ∃ r, e = .returned r ∧ RowR 1 intR w' r [1, 3] ∧ Below W0.heap.size W0 w') :=
    Lib.hid (typing_Behind _ _ 0 (31, 3, 0) W0 hR rfl (by decide) (by decide) (by decide))
  have H2 : Hid (∀ W, Below W0.heap.size W0 W → Calls Try.prog 6 #[.slice (some ⟨w.heap.size, 0, none⟩) 3 3, .int .i64 2] W fun e w' => ∃ r, e = .returned r ∧ RowR 1 intR w' r [3, 4] ∧ Below W.heap.size W w') :=
    Lib.hid (fun W hb => typing_Behind _ _ 2 (32, 1, 0) W (hR.below insR_stable hb) rfl (by decide) (by decide) (by decide))
  have HW0 := Lib.hid hW0
  clear hR hW0
  go_enter Try.func4, Try.ntmps4
  go_wp2_with fail
  rw [← HW0.out]
  refine H0.out.mono ?_; rintro e W1 ⟨r, rfl, hr, hb1⟩
  obtain ⟨sr, cr, rfl⟩ : ∃ a cap, r = .slice a 2 cap := row_get hr
  obtain ⟨b, off, rfl, hbw, hc⟩ := ints_at hr (k := 1) (by decide)
  obtain ⟨c1, _⟩ := hc 1 3 rfl
  clear hc hr
  have y1 : b < W1.heap.size := hbw
  have hB1 := hb0.trans (hb1.mono hb0.size)
  go_wp2_with fail
  refine (H2.out _ hb1).mono ?_; rintro e W2 ⟨r2, rfl, hr2, hb2⟩
  obtain ⟨s2, cr2, rfl⟩ : ∃ a cap, r2 = .slice a 2 cap := row_get hr2
  have hB2 := hB1.trans (hb2.mono hB1.size)
  clear hr2
  go_wp2_with fail
  go_ret
  exact ⟨rfl, hB2⟩
end Go.Proofs.Ytnkmnmlhjanplaa
