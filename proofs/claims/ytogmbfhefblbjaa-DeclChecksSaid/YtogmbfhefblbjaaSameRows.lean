/- Rows of variables, of blocks: the same rows are the same. -/
import Derived.Test.YtogmbfhefblbjaaPgm
import Derived.Test.YtogmbfhefblbjaaMoreB
import Derived.Test.YtogmbfhefblbjaaKeep
import Derived.LoopTactic
import Derived.OwnWalk
import Derived.Deep.QuietTactic
import Derived.BigQuiet
import Derived.WalkSmall
import Derived.IntWalk
namespace Go.Proofs.Ytogmbfhefblbjaa
open Go.RowKit
set_option linter.unusedSimpArgs false
set_option linter.unusedVariables false
set_option maxRecDepth 100000 in
set_option maxHeartbeats 2000000 in
theorem ref14_SameVars (u v : Value) (A : List Vr) (w : World) (hu : RowR 5 varR w u A) (hv : RowR 5 varR w v A) :
    Calls Try.prog 35 #[u, v] w fun e w' => e = .returned (.bool true) ∧ ∃ m, w' = w.drewN m := by
  have hl := hu.len
  obtain ⟨ua, uc, rfl⟩ := row_get hu
  obtain ⟨va, vc, rfl⟩ := row_get hv
  obtain ⟨n, hN⟩ : ∃ n, A.length = n := ⟨_, rfl⟩
  rw [hN] at hu hv hl ⊢
  go_enter Try.func35, Try.ntmps35
  go_wp2_with fail
  go_loopw [5] (fun j wr => ∃ k m : Nat, k ≤ n ∧ j = .int .i64 k ∧ wr = w.drewN m) (fun j _ => n - (intOf j).toNat)
  case atStart => exact ⟨0, 0, by omega, rfl, rfl⟩
  case round =>
    obtain ⟨k, m, hk, rfl, rfl⟩ := hrel
    by_cases hlt : k < n
    · obtain ⟨x, hx⟩ : ∃ x, A[k]? = some x := get_some (by omega)
      obtain ⟨b1, o1, rfl, hb1, hc1⟩ := var_at hu (k := k) (by omega)
      obtain ⟨b2, o2, rfl, hb2, hc2⟩ := var_at hv (k := k) (by omega)
      obtain ⟨c0, c1, c2, c3, c4, _⟩ := hc1 k x hx
      obtain ⟨d0, d1, d2, d3, d4, _⟩ := hc2 k x hx
      clear hc1 hc2 hx
      go_wp2_with fail
      go_quiet (fail)
      go_wp2_with fail
      go_roundw
      case rel => exact ⟨k + 1, _, by omega, by simp, rfl⟩
      case measure => first | (simp [intOf]; done) | (simp [intOf]; omega)
    · obtain rfl : k = n := by omega
      go_wp2_with fail
      go_ret
      exact ⟨rfl, _, rfl⟩
set_option maxHeartbeats 2000000 in
theorem ref14_SameBlocks (u v : Value) (A : List Bk) (w : World) (hu : RowR 2 blkR w u A) (hv : RowR 2 blkR w v A) :
    Calls Try.prog 36 #[u, v] w fun e w' => e = .returned (.bool true) ∧ ∃ m, w' = w.drewN m := by
  have hl := hu.len
  obtain ⟨ua, uc, rfl⟩ := row_get hu
  obtain ⟨va, vc, rfl⟩ := row_get hv
  obtain ⟨n, hN⟩ : ∃ n, A.length = n := ⟨_, rfl⟩
  rw [hN] at hu hv hl ⊢
  go_enter Try.func36, Try.ntmps36
  go_wp2_with fail
  go_loopw [5] (fun j wr => ∃ k m : Nat, k ≤ n ∧ j = .int .i64 k ∧ wr = w.drewN m) (fun j _ => n - (intOf j).toNat)
  case atStart => exact ⟨0, 0, by omega, rfl, rfl⟩
  case round =>
    obtain ⟨k, m, hk, rfl, rfl⟩ := hrel
    by_cases hlt : k < n
    · obtain ⟨x, hx⟩ : ∃ x, A[k]? = some x := get_some (by omega)
      obtain ⟨b1, o1, rfl, hb1, hc1⟩ := blk_at hu (k := k) (by omega)
      obtain ⟨b2, o2, rfl, hb2, hc2⟩ := blk_at hv (k := k) (by omega)
      obtain ⟨c0, c1, _, _⟩ := hc1 k x hx
      obtain ⟨d0, d1, _, _⟩ := hc2 k x hx
      clear hc1 hc2 hx
      go_wp2_with fail
      go_quiet (fail)
      go_wp2_with fail
      go_roundw
      case rel => exact ⟨k + 1, _, by omega, by simp, rfl⟩
      case measure => first | (simp [intOf]; done) | (simp [intOf]; omega)
    · obtain rfl : k = n := by omega
      go_wp2_with fail
      go_ret
      exact ⟨rfl, _, rfl⟩
end Go.Proofs.Ytogmbfhefblbjaa
