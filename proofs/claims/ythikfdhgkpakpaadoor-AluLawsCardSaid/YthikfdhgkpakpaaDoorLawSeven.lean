/- Layer 7: the laws' walks. -/
import Derived.Test.YthikfdhgkpakpaaDoorAluRefBin
import Derived.Test.YthikfdhgkpakpaaDoorAluUn
namespace Go.Proofs.YthikfdhgkpakpaaDoor
open Go.RowKit
theorem KSizes.of_below {w w' : World} (h : KSizes w) (hb : Below w.heap.size w w') : KSizes w' := h.below hb
theorem law07_awake (w : World) (hg : AGoes w) (hs : KSizes w) : Calls Tryd.prog 14 #[] w fun e w' => e = .returned (.bool true) ∧ w = w' := by
  have e1 : aBin 11 2 (-32768) (-1) = (-32768, 0, true) := by decide +kernel
  have e2 : aResult 20 2 = 1 := by decide +kernel
  go_enter Tryd.func14, Tryd.ntmps14
  go_wp2_with fail
  refine (alu_Bin _ _ _ _ _ hg hs).mono ?_; rintro e w' ⟨rfl, rfl⟩
  rw [e1]
  go_wp2_with fail
  refine (alu_Result _ _ _ hg).mono ?_; rintro e w' ⟨rfl, rfl⟩
  rw [e2]
  go_wp2_with fail
  go_ret
  exact ⟨rfl, rfl⟩
theorem aluBins_walk (op t x y : Int) (w : World) (hs : KSizes w) (hg : AGoes w) : Calls Tryd.prog 3 #[.int .i64 op, .int .i64 t, .agg #[.int .i64 x, .int .i64 y]] w
    fun e w' => e = .returned (.bool true) ∧ Below w.heap.size w w' := by
  go_enter Tryd.func3, Tryd.ntmps3
  go_wp2_with fail
  obtain ⟨wb, hwb⟩ : ∃ wb, wb = w.alloc (.cells #[.int .i64 x, .int .i64 y] 22) := ⟨_, rfl⟩
  have c0 : wb.cell? ⟨w.heap.size, 0, none⟩ = some (.int .i64 x) := hwb ▸ cell_new w _ _ _ 0 rfl
  have c1 : wb.cell? ⟨w.heap.size, 1, none⟩ = some (.int .i64 y) := hwb ▸ cell_new w _ _ _ 1 rfl
  have hR : Below w.heap.size w wb := hwb ▸ (Below.refl _ _).alloc (Nat.le_refl _) _
  have hg' := hg.below hR
  have hs' := hs.below hR
  rw [← hwb]
  clear hwb hg hs
  go_wp2_with fail
  refine (alu_Bin _ _ _ _ _ hg' hs').mono ?_; rintro e w' ⟨rfl, rfl⟩
  go_wp2_with fail
  refine (ref07_Bin _ _ _ _ _).mono ?_; rintro e w' ⟨rfl, rfl⟩
  generalize aBin op t x y = r
  obtain ⟨r1, r2, r3⟩ := r
  dsimp only
  go_wp2_with fail
  refine (alu_Goes _ _ _ hg').mono ?_; rintro e w' ⟨rfl, rfl⟩
  go_wp2_with fail
  refine (ref07_Goes _ _ _).mono ?_; rintro e w' ⟨rfl, rfl⟩
  go_wp2_with fail
  refine (alu_Binary _ _).mono ?_; rintro e w' ⟨rfl, rfl⟩
  go_wp2_with fail
  refine (ref07_Binary _ _).mono ?_; rintro e w' ⟨rfl, rfl⟩
  go_wp2_with fail
  refine (alu_Result _ _ _ hg').mono ?_; rintro e w' ⟨rfl, rfl⟩
  go_wp2_with fail
  refine (ref07_Result _ _ _).mono ?_; rintro e w' ⟨rfl, rfl⟩
  go_wp2_with fail
  refine (law07_awake _ hg' hs').mono ?_; rintro e w' ⟨rfl, rfl⟩
  go_wp2_with fail
  go_ret
  exact ⟨rfl, hR⟩
theorem aluUns_walk (op t x y : Int) (hx : -9223372036854775808 ≤ x ∧ x ≤ 9223372036854775807) (w : World) (hs : KSizes w) (hg : AGoes w) : Calls Tryd.prog 4 #[.int .i64 op, .int .i64 t, .agg #[.int .i64 x, .int .i64 y]] w
    fun e w' => e = .returned (.bool true) ∧ Below w.heap.size w w' := by
  go_enter Tryd.func4, Tryd.ntmps4
  go_wp2_with fail
  obtain ⟨wb, hwb⟩ : ∃ wb, wb = w.alloc (.cells #[.int .i64 x, .int .i64 y] 22) := ⟨_, rfl⟩
  have c0 : wb.cell? ⟨w.heap.size, 0, none⟩ = some (.int .i64 x) := hwb ▸ cell_new w _ _ _ 0 rfl
  have c1 : wb.cell? ⟨w.heap.size, 1, none⟩ = some (.int .i64 y) := hwb ▸ cell_new w _ _ _ 1 rfl
  have hR : Below w.heap.size w wb := hwb ▸ (Below.refl _ _).alloc (Nat.le_refl _) _
  have hg' := hg.below hR
  have hs' := hs.below hR
  rw [← hwb]
  clear hwb hg hs
  go_wp2_with fail
  refine (alu_Un _ _ _ _ hg').mono ?_; rintro e w' ⟨rfl, rfl⟩
  go_wp2_with fail
  refine (ref07_Un _ _ _ hx _).mono ?_; rintro e w' ⟨rfl, rfl⟩
  generalize aUn op t x = r
  obtain ⟨r1, r2⟩ := r
  dsimp only
  go_wp2_with fail
  refine (alu_Conv _ _ _ _).mono ?_; rintro e w' ⟨rfl, rfl⟩
  go_wp2_with fail
  refine (ref07_Conv _ _ _ hx _).mono ?_; rintro e w' ⟨rfl, rfl⟩
  generalize aConv t y x = r
  obtain ⟨r3, r4⟩ := r
  dsimp only
  go_wp2_with fail
  refine (law07_awake _ hg' hs').mono ?_; rintro e w' ⟨rfl, rfl⟩
  go_wp2_with fail
  go_ret
  exact ⟨rfl, hR⟩
end Go.Proofs.YthikfdhgkpakpaaDoor
