/- Layer 3: the laws' walks. -/
import Derived.Test.YteffcopdhimbaaaHeldMore
import Derived.Test.YteffcopdhimbaaaOctetRefText
import Derived.Lib.SlBytesConst
namespace Go.Proofs.Yteffcopdhimbaaa
open Go.RowKit
theorem law03_awake (w : World) : Calls Try.prog 6 #[] w fun e w' => e = .returned (.bool true) ∧ Below w.heap.size w w' := by
  have hL : ((near8 2).toNat) = 2 := by decide
  have hP : ([97] : List UInt8) ++ putL 2 258 = [97, 2, 1] := by decide +kernel
  have kc := fun (w : World) (C : Array Value) (n c : Nat) => Lib.run_convert_bytes_const (P := Try.prog) w 22 5 C n c Try.underlying22 Try.underlying5
  go_enter Try.func6, Try.ntmps6
  go_wp2_with fail
  refine (octet_Put _ [97] 2 258 _ ?_ (by decide)).mono ?_
  · refine RowAt.new _ _ _ _ _ 1 1 (by omega) (by omega) (by omega) fun i hi => ?_
    obtain rfl : i = 0 := by omega
    rfl
  rintro e w1 ⟨r, rfl, hO, hb⟩
  have hcv := conv_owns (P := Try.prog) (src := 22) (dst := 9) (e := 5) Try.underlying22 Try.underlying5 Try.underlying9 hO
  rw [hL, hP] at hcv
  clear hO
  have hz := hb.size
  simp only [World.size_alloc] at hz hb
  go_wp2_with fail
  go_ret
  exact ⟨rfl, ((Below.refl _ _).alloc (Nat.le_refl _) _).trans (hb.mono (by omega))⟩
end Go.Proofs.Yteffcopdhimbaaa
