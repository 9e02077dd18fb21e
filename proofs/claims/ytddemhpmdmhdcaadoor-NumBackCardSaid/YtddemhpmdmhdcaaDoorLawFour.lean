/- Layer 4: the laws' walks. -/
import Derived.Test.YtddemhpmdmhdcaaDoorNumLitC
namespace Go.Proofs.YtddemhpmdmhdcaaDoor
open Go.RowKit
set_option linter.unusedSimpArgs false
set_option linter.unusedVariables false
theorem pr_120 : prS (-120) = ⟨#[45, 49, 50, 48]⟩ := by
  unfold prS
  rw [pr_neg (by decide), show (-(-120 : Int)).toNat = 120 from rfl, dig_ge (by decide), show 120 / 10 = 12 from rfl, dig_ge (by decide), show 12 / 10 = 1 from rfl, dig_lt (by decide)]
  decide +kernel
theorem lit_2 : litS 2 (-5) = ⟨#[73, 78, 84, 35, 45, 53]⟩ := by
  rw [litS_m (by decide) (by decide) (by decide)]
  have : prS (-5) = ⟨#[45, 53]⟩ := by
    unfold prS
    rw [pr_neg (by decide), show (-(-5 : Int)).toNat = 5 from rfl, dig_lt (by decide)]
    decide +kernel
  rw [this]
  decide +kernel
theorem law04_awake (w : World) (hn : KNames w) : Calls Tryd.prog 6 #[] w fun e w' => e = .returned (.bool true) ∧ Below w.heap.size w w' := by
  go_enter Tryd.func6, Tryd.ntmps6
  go_wp2_with fail
  refine (num_Print (-120) (by omega) _).mono ?_; rintro e w1 ⟨rfl, hb1⟩
  rw [pr_120]
  go_wp2_with fail
  refine (num_Literal 2 (-5) (by omega) _ (hn.below hb1)).mono ?_; rintro e w2 ⟨rfl, hb2⟩
  rw [lit_2]
  have hB := hb1.trans (hb2.mono hb1.size)
  go_wp2_with fail
  go_ret
  exact ⟨rfl, hB⟩
theorem numReads_walk (n : Int) (hn : -9223372036854775808 ≤ n ∧ n ≤ 9223372036854775807) (l : List UInt8) (hl : (l.length : Int) ≤ 9223372036854775807) (w : World) (hN : KNames w) :
    Calls Tryd.prog 3 #[.int .i64 n, .string ⟨l.toArray⟩] w fun e w' => e = .returned (.bool true) ∧ Below w.heap.size w w' := by
  by_cases h1 : 100 < l.length
  · go_enter Tryd.func3, Tryd.ntmps3
    go_wp2_with fail
    refine (law04_awake _ hN).mono ?_; rintro e w1 ⟨rfl, hb⟩
    go_wp2_with fail
    go_ret
    exact ⟨rfl, hb⟩
  · go_enter Tryd.func3, Tryd.ntmps3
    go_wp2_with fail
    refine (num_Parse l hl _).mono ?_; rintro e w1 ⟨rfl, hb1⟩
    go_wp2_with fail
    refine (ref04_Parse l hl _).mono ?_; rintro e w' ⟨rfl, rfl⟩
    go_wp2_with fail
    refine (num_Print n hn _).mono ?_; rintro e w2 ⟨rfl, hb2⟩
    have hB2 := hb1.trans (hb2.mono hb1.size)
    go_wp2_with fail
    refine (ref04_Print n hn _).mono ?_; rintro e w' ⟨rfl, rfl⟩
    go_wp2_with fail
    refine (law04_awake _ (hN.below hB2)).mono ?_; rintro e w3 ⟨rfl, hb3⟩
    have hB3 := hB2.trans (hb3.mono hB2.size)
    go_wp2_with fail
    go_ret
    exact ⟨rfl, hB3⟩
end Go.Proofs.YtddemhpmdmhdcaaDoor
