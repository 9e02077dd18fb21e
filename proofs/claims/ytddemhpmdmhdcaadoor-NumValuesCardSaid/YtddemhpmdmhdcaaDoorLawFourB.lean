/- Layer 4: the walks of NumValues and NumBack. -/
import Derived.Test.YtddemhpmdmhdcaaDoorNumRefV
import Derived.Test.YtddemhpmdmhdcaaDoorLawFour
namespace Go.Proofs.YtddemhpmdmhdcaaDoor
open Go.RowKit
set_option linter.unusedSimpArgs false
set_option linter.unusedVariables false
theorem lit_len {t v : Int} (h : -9223372036854775808 ≤ v ∧ v ≤ 9223372036854775807) : (lit t v).length ≤ 40 := by
  have hp := pr_len h
  cases hk : kIn t v
  · rw [lit_no hk]; simp
  · have ht : 1 ≤ t ∧ t ≤ 6 := by
      by_cases h : 1 ≤ t ∧ t ≤ 6
      · exact h
      · rw [kIn_no h] at hk; cases hk
    by_cases h1 : t = 1
    · subst h1; rw [lit_1 hk]; split <;> decide
    by_cases h6 : t = 6
    · subst h6; rw [lit_6 hk]; simp; omega
    · rw [lit_m hk h1 h6]
      have : (nm t).length ≤ 10 := by
        obtain rfl | rfl | rfl | rfl : t = 2 ∨ t = 3 ∨ t = 4 ∨ t = 5 := by omega
        all_goals decide
      simp; omega
set_option maxHeartbeats 1000000 in
theorem numValues_walk (t : Int) (v : Int) (hv : -9223372036854775808 ≤ v ∧ v ≤ 9223372036854775807) (l : List UInt8) (hl : (l.length : Int) ≤ 9223372036854775807) (w : World) (hN : KNames w) :
    Calls Tryd.prog 4 #[.int .i64 t, .int .i64 v, .string ⟨l.toArray⟩] w fun e w' => e = .returned (.bool true) ∧ Below w.heap.size w w' := by
  by_cases h1 : 100 < l.length
  · go_enter Tryd.func4, Tryd.ntmps4
    go_wp2_with fail
    refine (law04_awake _ hN).mono ?_; rintro e w1 ⟨rfl, hb⟩
    go_wp2_with fail
    go_ret
    exact ⟨rfl, hb⟩
  · go_enter Tryd.func4, Tryd.ntmps4
    go_wp2_with fail
    refine (num_Value l hl _ hN).mono ?_; rintro e w1 ⟨rfl, hb1⟩
    go_wp2_with fail
    refine (ref04_Value l hl _).mono ?_; rintro e w2 ⟨rfl, hb2⟩
    have hB2 := hb1.trans (hb2.mono hb1.size)
    clear hb1 hb2
    go_wp2_with fail
    refine (num_Literal t v hv _ (hN.below hB2)).mono ?_; rintro e w3 ⟨rfl, hb3⟩
    have hB3 := hB2.trans (hb3.mono hB2.size)
    clear hb3
    go_wp2_with fail
    refine (ref04_Literal t v hv _).mono ?_; rintro e w4 ⟨rfl, hb4⟩
    have hB4 := hB3.trans (hb4.mono hB3.size)
    clear hb4
    go_wp2_with fail
    refine (law04_awake _ (hN.below hB4)).mono ?_; rintro e w5 ⟨rfl, hb5⟩
    have hB5 := hB4.trans (hb5.mono hB4.size)
    go_wp2_with fail
    go_ret
    exact ⟨rfl, hB5⟩
set_option maxHeartbeats 1000000 in
theorem numBack_walk (t : Int) (v : Int) (hv : -9223372036854775808 ≤ v ∧ v ≤ 9223372036854775807) (u : Int) (hu : -9223372036854775808 ≤ u ∧ u ≤ 9223372036854775807) (w : World) (hN : KNames w) :
    Calls Tryd.prog 5 #[.int .i64 t, .int .i64 v, .int .i64 u] w fun e w' => e = .returned (.bool true) ∧ Below w.heap.size w w' := by
  have hp1 := Lib.hid (pr_len hv)
  have g1 := Lib.hid (gn_pr hv)
  have g2 := Lib.hid (isNum_pr hv)
  have hll := Lib.hid (lit_len (t := t) hv)
  have p1 := prS_list v
  have p2 := prS_list u
  have hcmp : (pr v == pr u) = (v == u) := by
    by_cases h : v = u
    · subst h; simp
    · rw [beq_eq_false_iff_ne.2 h, beq_eq_false_iff_ne]; exact fun k => h (pr_inj k)
  go_enter Tryd.func5, Tryd.ntmps5
  go_wp2_with fail
  refine (num_Print v hv _).mono ?_; rintro e w1 ⟨rfl, hb1⟩
  go_wp2_with fail
  refine (num_Parse (pr v) (by have := hp1.out; omega) _).mono ?_; rintro e w2 ⟨rfl, hb2⟩
  rw [g1.out, g2.out]
  have hB2 := hb1.trans (hb2.mono hb1.size)
  clear hb1 hb2
  go_wp2_with fail
  refine (num_Print v hv _).mono ?_; rintro e w3 ⟨rfl, hb3⟩
  have hB3 := hB2.trans (hb3.mono hB2.size)
  clear hb3
  go_wp2_with fail
  refine (num_Print u hu _).mono ?_; rintro e w4 ⟨rfl, hb4⟩
  have hB4 := hB3.trans (hb4.mono hB3.size)
  clear hb4
  go_wp2_with fail
  refine (num_Literal t v hv _ (hN.below hB4)).mono ?_; rintro e w5 ⟨rfl, hb5⟩
  have hB5 := hB4.trans (hb5.mono hB4.size)
  clear hb5
  have hls := litS_list t v
  go_wp2_with fail
  refine (num_Value (lit t v) (by have := hll.out; omega) _ (hN.below hB5)).mono ?_; rintro e w6 ⟨rfl, hb6⟩
  have hB6 := hB5.trans (hb6.mono hB5.size)
  clear hb6
  by_cases hn : lit t v = []
  · have hb := beqs_yes hn
    have hi : isLit (lit t v) = false := by rw [hn]; exact isLit_nil
    rw [hi]
    clear hi hn
    generalize v1 (lit t v) = x1 at *
    generalize v2 (lit t v) = x2 at *
    go_wp2_with fail
    refine (law04_awake _ (hN.below hB6)).mono ?_; rintro e w7 ⟨rfl, hb7⟩
    have hB7 := hB6.trans (hb7.mono hB6.size)
    go_wp2_with fail
    go_ret
    exact ⟨rfl, hB7⟩
  · have hb := beqs_no hn
    have hi := isLit_lit hv hn
    obtain ⟨q1, q2⟩ := v_yes hi
    rw [guess_lit hv hn] at q1 q2
    rw [hi, q1, q2]
    clear hi hn q1 q2
    go_wp2_with fail
    refine (law04_awake _ (hN.below hB6)).mono ?_; rintro e w7 ⟨rfl, hb7⟩
    have hB7 := hB6.trans (hb7.mono hB6.size)
    go_wp2_with fail
    go_ret
    exact ⟨rfl, hB7⟩
end Go.Proofs.YtddemhpmdmhdcaaDoor
