/- Layer 3: the reference's reader: Left. -/
import Derived.Test.YteffcopdhimbaaaRefNum
namespace Go.Proofs.Yteffcopdhimbaaa
open Go.RowKit
set_option linter.unusedSimpArgs false
set_option linter.unusedVariables false
theorem rf_Left (g q : Nat) (L : List UInt8) (n : Nat) (bad : Bool) (w : World) (h : RfAt w g q L n bad) :
    Calls Try.prog 19 #[.pointer (some ⟨g, 0, none⟩)] w fun e w' => e = .returned (.int .i64 (leftOf L n bad)) ∧ ∃ m, w' = w.drewN m := by
  obtain ⟨rv, hg, hr, hi, hq, hn, hL⟩ := h
  obtain ⟨p, cap, rfl⟩ := row_drop hr hi (m := 0)
  have c0 := cell_of hg 0 rfl
  have c2 := cell_of hg 2 rfl
  have hl : (((L.length - n : Nat)) : Int) ≤ 9223372036854775807 := by omega
  have HL := Lib.hid (show leftOf L n false = ((L.length - n : Nat) : Int) by unfold leftOf; simp; omega)
  clear hr hg
  generalize L.length - n = ln at *
  cases bad
  · go_enter Try.func19, Try.ntmps19
    go_wp2_with fail
    go_ret
    exact ⟨by rw [HL.out]; rfl, 0, rfl⟩
  · go_enter Try.func19, Try.ntmps19
    go_wp2_with fail
    go_ret
    exact ⟨rfl, 0, rfl⟩
end Go.Proofs.Yteffcopdhimbaaa
