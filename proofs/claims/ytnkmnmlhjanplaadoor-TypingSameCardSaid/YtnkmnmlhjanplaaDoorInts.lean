/- Whether two lists of numbers are the same. -/
import Derived.Test.YtnkmnmlhjanplaaDoorOwn
import Derived.Test.YtnkmnmlhjanplaaDoorMoreB
import Derived.LoopTactic
import Derived.OwnWalk
import Derived.WalkKit
import Derived.WalkSpells
import Derived.WalkLawsBesides
import Derived.Deep.QuietTactic
import Derived.BigQuiet
import Derived.WalkSmall
import Derived.IntWalk
namespace Go.Proofs.YtnkmnmlhjanplaaDoor
open Go.RowKit
set_option linter.unusedSimpArgs false
set_option linter.unusedVariables false
set_option maxHeartbeats 2000000 in
theorem ref15_Ints (v u : Value) (L M : List Int) (w : World) (hv : RowR 1 intR w v L) (hu : RowR 1 intR w u M) :
    Calls Tryd.prog 9 #[v, u] w fun e w' => e = .returned (.bool (decide (L = M))) ∧ ∃ m, w' = w.drewN m := by
  have hL := hv.len
  obtain ⟨sa, ca, rfl⟩ := row_get hv
  obtain ⟨sb, cb, rfl⟩ := row_get hu
  by_cases hlen : L.length = M.length
  · have hb : (((L.length : Nat) : Int) != ((M.length : Nat) : Int)) = false := by rw [hlen]; simp
    have HY := Lib.hid (fun h : L = M => (decide_eq_true h : decide (L = M) = true))
    have HN := Lib.hid (fun h : ¬ L = M => (decide_eq_false h : decide (L = M) = false))
    obtain ⟨N, hN⟩ : ∃ N, L.length = N := ⟨_, rfl⟩
    have hM : M.length = N := hlen.symm.trans hN
    rw [hN] at hv hL
    rw [hM] at hu
    rw [hN, hM] at hb
    rw [hN, hM]
    clear hlen
    go_enter Tryd.func9, Tryd.ntmps9
    go_wp2_with fail
    go_loopw [5] (fun j wr => ∃ k m : Nat, k ≤ N ∧ j = .int .i64 k ∧ Hid (L.take k = M.take k) ∧ wr = w.drewN m) (fun j _ => N - (intOf j).toNat)
    case atStart => exact ⟨0, 0, by omega, rfl, Lib.hid (by simp), rfl⟩
    case round =>
      obtain ⟨k, m, hk, rfl, heq, rfl⟩ := hrel
      by_cases hlt : k < N
      · obtain ⟨b, off, rfl, hbw, hc⟩ := ints_at hv (k := k) (by omega)
        obtain ⟨b2, off2, rfl, hbw2, hd⟩ := ints_at hu (k := k) (by omega)
        obtain ⟨x, hx⟩ : ∃ x, L[k]? = some x := ⟨L[k]'(by omega), by simp [hN, hlt]⟩
        obtain ⟨y, hy⟩ : ∃ y, M[k]? = some y := ⟨M[k]'(by omega), by simp [hlt, hM]⟩
        obtain ⟨c0, _⟩ := hc k x hx
        obtain ⟨d0, _⟩ := hd k y hy
        clear hc hd
        by_cases hxy : x = y
        · have hs := Lib.hid (show L.take (k + 1) = M.take (k + 1) by rw [take_snoc hx, take_snoc hy, heq.out, hxy])
          have hq : (x != y) = false := by simp [hxy]
          clear hxy hx hy heq
          go_wp2_with fail
          go_quiet (fail)
          go_wp2_with fail
          go_roundw
          case rel => exact ⟨k + 1, _, by omega, by simp, hs, rfl⟩
          case measure => first | (simp [intOf]; done) | (simp [intOf]; omega)
        · have hs := Lib.hid (HN.out (fun h => hxy (by rw [h, hy] at hx; exact (Option.some.inj hx).symm)))
          have hq : (x != y) = true := by simpa using hxy
          clear hxy hx hy heq
          go_wp2_with fail
          go_quiet (fail)
          go_wp2_with fail
          go_ret
          exact ⟨by rw [hs.out]; rfl, _, World.drewN_drewN _ _ _⟩
      · obtain rfl : k = N := by omega
        have hs := Lib.hid (HY.out (by have := heq.out; rw [List.take_of_length_le (by omega), List.take_of_length_le (by omega)] at this; exact this))
        clear heq
        go_wp2_with fail
        go_ret
        exact ⟨by rw [hs.out]; rfl, _, rfl⟩
  · have hb : (((L.length : Nat) : Int) != ((M.length : Nat) : Int)) = true := by simp; omega
    have hs := Lib.hid (show decide (L = M) = false from decide_eq_false (fun h => hlen (by rw [h])))
    clear hlen
    go_enter Tryd.func9, Tryd.ntmps9
    go_wp2_with fail
    go_ret
    exact ⟨by rw [hs.out]; rfl, 0, rfl⟩
end Go.Proofs.YtnkmnmlhjanplaaDoor
