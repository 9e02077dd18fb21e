/- Layer 15: the law's awake. -/
import Derived.Test.YtpeogdbfhfkngaaDoorUnPut
import Derived.Lib.SlBytesConst
namespace Go.Proofs.YtpeogdbfhfkngaaDoor
open Go.RowKit
set_option linter.unusedSimpArgs false
set_option linter.unusedVariables false
def unW : Un := ⟨[], [], 0, [], [(34, 0, 0)]⟩
theorem unW_fit : fitU unW = true := by decide +kernel
theorem unW_put : putO unW = [0, 0, 0, 0, 0, 1, 0, 34, 0, 0, 0, 0] := by decide +kernel
set_option maxHeartbeats 2000000 in
theorem law15_awake (w : World) (hT : STab w) : Calls Tryd.prog 7 #[] w fun e w' => e = .returned (.bool true) ∧ Below w.heap.size w w' := by
  have hR : RowR 3 insR (w.alloc (.cells #[.int .i64 34, .int .i64 0, .int .i64 0] 40)) (.slice (some ⟨w.heap.size, 0, none⟩) 1 1) [(34, 0, 0)] := by
    refine Or.inr ⟨w.heap.size, 0, 1, rfl, by simp, by simp, by unfold maxLen; omega, by simp, fun i x hx => ?_⟩
    have hi : i < 1 := lt_of_get hx
    obtain rfl : i = 0 := by omega
    obtain rfl : ((34, 0, 0) : Ins) = x := by simpa using hx
    refine ⟨[.int .i64 34, .int .i64 0, .int .i64 0], rfl, fun j u hu => ?_, rfl, (show I64 34 by unfold I64; omega), (show I64 0 by unfold I64; omega), (show I64 0 by unfold I64; omega)⟩
    have := Boxed.new w [.int .i64 34, .int .i64 0, .int .i64 0] 40 (Below.refl _ _) j u hu
    simpa using this
  have hB0 : Below w.heap.size w (w.alloc (.cells #[.int .i64 34, .int .i64 0, .int .i64 0] 40)) := (Below.refl _ _).alloc (Nat.le_refl _) _
  have HR := Lib.hid (unit_Put (.slice none 0 0) (.slice none 0 0) _ unW _ (hT.below hB0) ⟨row_none, row_none, hR, by unfold sz unW; simp, by unfold I64 unW; simp⟩ ⟨by simp [unW], by simp [unW], by simp [unW]⟩)
  rw [unW_fit, unW_put] at HR
  clear hR
  go_enter Tryd.func7, Tryd.ntmps7
  go_wp2_with fail
  refine HR.out.mono ?_; rintro e w1 ⟨r, rfl, h1, h3⟩
  have hcv := conv_row (P := Tryd.prog) (src := 28) (dst := 9) (e := 5) Tryd.underlying28 Tryd.underlying5 Tryd.underlying9 h1
  have hB1 := hB0.trans (h3.mono hB0.size)
  clear h1 h3 HR
  go_wp2_with fail
  go_returns
  exact ⟨rfl, hB1⟩
end Go.Proofs.YtpeogdbfhfkngaaDoor
