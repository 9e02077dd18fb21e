/- Layer 15: numbers that fit a byte, and their bytes: the unit's. -/
import Derived.Test.YtpeogdbfhfkngaaDoorTabA
namespace Go.Proofs.YtpeogdbfhfkngaaDoor
open Go.RowKit
set_option linter.unusedSimpArgs false
set_option linter.unusedVariables false
set_option maxHeartbeats 2000000 in
theorem unit_small (v : Value) (L : List Int) (w : World) (hv : RowR 1 intR w v L) :
    Calls Tryd.prog 26 #[v] w fun e w' => e = .returned (.bool (L.all fitB)) ∧ ∃ m, w' = w.drewN m := by
  have hL := hv.len
  obtain ⟨sa, ca, rfl⟩ := row_get hv
  have HY := Lib.hid (fun h : (L.take L.length).all fitB = true => (show L.all fitB = true by rwa [List.take_length] at h))
  obtain ⟨N, hN⟩ : ∃ N, L.length = N := ⟨_, rfl⟩
  rw [hN] at hv hL HY
  rw [hN]
  go_enter Tryd.func26, Tryd.ntmps26
  go_wp2_with fail
  go_loopw [7] (fun j wr => ∃ k m : Nat, k ≤ N ∧ j = .int .i64 k ∧ Hid ((L.take k).all fitB = true) ∧ wr = w.drewN m) (fun j _ => N - (intOf j).toNat)
  case atStart => exact ⟨0, 0, by omega, rfl, Lib.hid (by simp), rfl⟩
  case round =>
    obtain ⟨k, m, hk, rfl, heq, rfl⟩ := hrel
    by_cases hlt : k < N
    · obtain ⟨b, off, rfl, hbw, hc⟩ := ints_at hv (k := k) (by omega)
      obtain ⟨x, hx⟩ : ∃ x, L[k]? = some x := ⟨L[k]'(by omega), by simp [hN, hlt]⟩
      obtain ⟨c0, _⟩ := hc k x hx
      clear hc
      by_cases h0 : 0 ≤ x
      · have q0 : (x < 0) = False := eq_false (by omega)
        by_cases h1 : x ≤ 255
        · have q1 : (255 < x) = False := eq_false (by omega)
          have hs := Lib.hid (all_snoc heq.out hx (fitB_yes h0 h1))
          clear hx heq h0 h1
          go_wp2_with fail
          go_roundw
          case rel => exact ⟨k + 1, _, by omega, by simp, hs, rfl⟩
          case measure => first | (simp [intOf]; done) | (simp [intOf]; omega)
        · have q1 : (255 < x) = True := eq_true (by omega)
          have hs := Lib.hid (all_not hx (show fitB x = false from decide_eq_false (fun g => h1 g.2)))
          clear hx heq h0 h1
          go_wp2_with fail
          go_ret
          exact ⟨by rw [hs.out]; rfl, _, rfl⟩
      · have q0 : (x < 0) = True := eq_true (by omega)
        have hs := Lib.hid (all_not hx (show fitB x = false from decide_eq_false (fun g => h0 g.1)))
        clear hx heq h0
        go_wp2_with fail
        go_ret
        exact ⟨by rw [hs.out]; rfl, _, rfl⟩
    · obtain rfl : k = N := by omega
      have hs := Lib.hid (HY.out heq.out)
      clear heq
      go_wp2_with fail
      go_ret
      exact ⟨by rw [hs.out]; rfl, _, rfl⟩
set_option maxHeartbeats 2000000 in
theorem ref15_bytes (v : Value) (L : List Int) (w : World) (hv : RowR 1 intR w v L) :
    Calls Tryd.prog 43 #[v] w fun e w' => e = .returned (.bool (L.all fitB)) ∧ ∃ m, w' = w.drewN m := by
  have hL := hv.len
  obtain ⟨sa, ca, rfl⟩ := row_get hv
  have HY := Lib.hid (fun h : (L.take L.length).all fitB = true => (show L.all fitB = true by rwa [List.take_length] at h))
  obtain ⟨N, hN⟩ : ∃ N, L.length = N := ⟨_, rfl⟩
  rw [hN] at hv hL HY
  rw [hN]
  go_enter Tryd.func43, Tryd.ntmps43
  go_wp2_with fail
  go_loopw [3] (fun j wr => ∃ k m : Nat, k ≤ N ∧ j = .int .i64 k ∧ Hid ((L.take k).all fitB = true) ∧ wr = w.drewN m) (fun j _ => N - (intOf j).toNat)
  case atStart => exact ⟨0, 0, by omega, rfl, Lib.hid (by simp), rfl⟩
  case round =>
    obtain ⟨k, m, hk, rfl, heq, rfl⟩ := hrel
    by_cases hlt : k < N
    · obtain ⟨b, off, rfl, hbw, hc⟩ := ints_at hv (k := k) (by omega)
      obtain ⟨x, hx⟩ : ∃ x, L[k]? = some x := ⟨L[k]'(by omega), by simp [hN, hlt]⟩
      obtain ⟨c0, _⟩ := hc k x hx
      clear hc
      by_cases h0 : 0 ≤ x
      · have q0 : (x < 0) = False := eq_false (by omega)
        by_cases h1 : x ≤ 255
        · have q1 : (255 < x) = False := eq_false (by omega)
          have hs := Lib.hid (all_snoc heq.out hx (fitB_yes h0 h1))
          clear hx heq h0 h1
          go_wp2_with fail
          go_roundw
          case rel => exact ⟨k + 1, _, by omega, by simp, hs, rfl⟩
          case measure => first | (simp [intOf]; done) | (simp [intOf]; omega)
        · have q1 : (255 < x) = True := eq_true (by omega)
          have hs := Lib.hid (all_not hx (show fitB x = false from decide_eq_false (fun g => h1 g.2)))
          clear hx heq h0 h1
          go_wp2_with fail
          go_ret
          exact ⟨by rw [hs.out]; rfl, _, rfl⟩
      · have q0 : (x < 0) = True := eq_true (by omega)
        have hs := Lib.hid (all_not hx (show fitB x = false from decide_eq_false (fun g => h0 g.1)))
        clear hx heq h0
        go_wp2_with fail
        go_ret
        exact ⟨by rw [hs.out]; rfl, _, rfl⟩
    · obtain rfl : k = N := by omega
      have hs := Lib.hid (HY.out heq.out)
      clear heq
      go_wp2_with fail
      go_ret
      exact ⟨by rw [hs.out]; rfl, _, rfl⟩
theorem made_row {w : World} {N : Nat} {C : Array Value} {e : TypeId} {L : List UInt8} (hC : C.size = N) (hm : N ≤ maxLen) (hL : N = L.length) (h : ∀ (i : Nat) (c : UInt8), L[i]? = some c → C[i]? = some (.int .u8 (c.toNat : Int))) : (w.alloc (.cells C e)).ownsRow w.heap.size e 1 (.slice (some ⟨w.heap.size, 0, none⟩) N N) N (bytesV L) := by
  refine ⟨by simp [bytesV, hL], Or.inr ⟨w.heap.size, N, C, rfl, Nat.le_refl _, alloc_get rfl, Nat.le_refl _, hm, by omega, ?_⟩⟩
  apply List.ext_getElem?
  intro i
  rw [List.getElem?_take]
  by_cases hi : i < N
  · rw [if_pos (by omega)]
    obtain ⟨c, hc⟩ := get_some (L := L) (n := i) (by omega)
    have := h i c hc
    simp [bytesV, hc, this]
  · rw [if_neg (by omega), List.getElem?_eq_none (by simp [bytesV]; omega)]
set_option maxHeartbeats 2000000 in
theorem unit_bytesOf (v : Value) (L : List Int) (w : World) (hv : RowR 1 intR w v L) (hm : L.length ≤ 20000) :
    Calls Tryd.prog 19 #[v] w fun e w' => ∃ r, e = .returned r ∧ w'.ownsRow w.heap.size 5 1 r L.length (bytesV (L.map byteO)) ∧ Below w.heap.size w w' := by
  obtain ⟨i, hi, hz, hsize, hby⟩ : ∃ i, Tryd.prog.info? 5 = some i ∧ i.zero = some (.int .u8 0) ∧ i.size = 1 ∧ i.bytes = 1 := ⟨(Tryd.prog.info? 5).get!, by kernel_rfl, by kernel_rfl, by kernel_rfl, by kernel_rfl⟩
  obtain ⟨sa, ca, rfl⟩ := row_get hv
  have HY := Lib.hid (show (L.map byteO).length = L.length by simp)
  obtain ⟨N, hN⟩ : ∃ N, L.length = N := ⟨_, rfl⟩
  rw [hN] at hv hm HY
  rw [hN]
  have hmk := run_make w 28 5 i _ Tryd.underlying28 hi hz .i64 .i64 (N : Int) (N : Int) (by omega) (by omega) (by rw [hby]; omega) (by omega)
  rw [hsize, Nat.mul_one, show ((N : Int)).toNat = N from by omega] at hmk
  obtain ⟨Z, hZ⟩ : ∃ Z, madeCells (Value.int .u8 0).cells N = Z := ⟨_, rfl⟩
  have hZs : Z.size = N := by rw [← hZ]; simp [madeCells]
  rw [hZ] at hmk
  clear hZ hi hz hsize hby
  go_enter Tryd.func19, Tryd.ntmps19
  go_wp2_with fail
  go_loopw [11] (fun j wr => ∃ (k : Nat) (C : Array Value), k ≤ N ∧ j = .int .i64 k ∧ C.size = N ∧ Hid (∀ i x, i < k → L[i]? = some x → C[i]? = some (.int .u8 (x % 256))) ∧ wr = w.alloc (.cells C 5)) (fun j _ => N - (intOf j).toNat)
  case atStart => exact ⟨0, Z, by omega, rfl, hZs, Lib.hid (fun i x h => by omega), rfl⟩
  case round =>
    clear hmk
    obtain ⟨k, C, hk, rfl, hCs, hall, rfl⟩ := hrel
    have hB : Below w.heap.size w (w.alloc (.cells C 5)) := (Below.refl _ _).alloc (Nat.le_refl _) _
    by_cases hlt : k < N
    · obtain ⟨x, hx⟩ : ∃ x, L[k]? = some x := get_some (by omega)
      obtain ⟨b, off, rfl, hbw, hc⟩ := ints_at hv (k := k) (by omega)
      obtain ⟨c0, _⟩ := hc k x hx
      have c0 := (hB.cell (p := ⟨b, off + k, none⟩) hbw).trans c0
      obtain ⟨u0, hu0⟩ : ∃ u0, C[k]? = some u0 := ⟨C[k]'(by omega), by simp [hCs, hlt]⟩
      have hn := Lib.hid (show ∀ i y, i < k + 1 → L[i]? = some y → (C.setIfInBounds k (.int .u8 (x % 256)))[i]? = some (.int .u8 (y % 256)) from fun i y hi hy => by
        by_cases hik : i = k
        · subst hik
          rw [hx] at hy
          obtain rfl := Option.some.inj hy
          simp [Array.getElem?_setIfInBounds, hCs, hlt]
        · rw [Array.getElem?_setIfInBounds, if_neg (by omega)]
          exact hall.out i y (by omega) hy)
      clear hc hx hB
      go_wp2_with fail
      go_roundw
      case rel => exact ⟨k + 1, _, by omega, by simp, by simp [hCs], hn.out, rfl⟩
      case measure => first | (simp [intOf]; done) | (simp [intOf]; omega)
    · obtain rfl : k = N := by omega
      go_wp2_with fail
      go_ret
      refine ⟨_, rfl, made_row hCs (by unfold maxLen; omega) (by simp [hN]) (fun i c hc => ?_), hB⟩
      have hi : i < L.length := by have := lt_of_get hc; simpa using this
      have hxi : L[i]? = some L[i] := by simp [hi]
      have hci : c = byteO L[i] := by simpa [hi] using hc.symm
      rw [hci, byteO_val]
      exact hall.out i _ (by omega) hxi
end Go.Proofs.YtpeogdbfhfkngaaDoor
