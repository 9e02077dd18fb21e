/- Layer 23: whether two states are the same, as the program says. -/
import Derived.Test.YthanmbfelihkfaaStSame
namespace Go.Proofs.Ythanmbfelihkfaa
open Go.RowKit
set_option linter.unusedSimpArgs false
set_option linter.unusedVariables false
set_option maxHeartbeats 2000000 in
theorem slices_Equal (v u : Value) (L M : List Int) (w : World) (hv : RowR 1 intR w v L) (hu : RowR 1 intR w u M) :
    Calls Try.prog 29 #[v, u] w fun e w' => e = .returned (.bool (decide (L = M))) ∧ ∃ m, w' = w.drewN m := by
  have hL := hv.len
  obtain ⟨sa, ca, rfl⟩ := row_get hv
  obtain ⟨sb, cb, rfl⟩ := row_get hu
  by_cases hlen : L.length = M.length
  · have hb : (((L.length : Nat) : Int) != ((M.length : Nat) : Int)) = false := by rw [hlen]; simp
    have HY := Lib.hid (fun h : L = M => (decide_eq_true h : decide (L = M) = true))
    have HN := Lib.hid (fun h : ¬ L = M => (decide_eq_false h : decide (L = M) = false))
    obtain ⟨N, hN⟩ : ∃ N, L.length = N := ⟨_, rfl⟩
    have hM : M.length = N := hlen.symm.trans hN
    rw [hN] at hv hL
    rw [hM] at hu
    rw [hN, hM] at hb
    rw [hN, hM]
    clear hlen
    go_enter Try.func29, Try.ntmps29
    go_wp2_with fail
    go_loopw [13] (fun j wr => ∃ k m : Nat, k ≤ N ∧ j = .int .i64 k ∧ Hid (L.take k = M.take k) ∧ wr = w.drewN m) (fun j _ => N - (intOf j).toNat)
    case atStart => exact ⟨0, 0, by omega, rfl, Lib.hid (by simp), rfl⟩
    case round =>
      obtain ⟨k, m, hk, rfl, heq, rfl⟩ := hrel
      by_cases hlt : k < N
      · obtain ⟨b, off, rfl, hbw, hc⟩ := ints_at hv (k := k) (by omega)
        obtain ⟨b2, off2, rfl, hbw2, hd⟩ := ints_at hu (k := k) (by omega)
        obtain ⟨x, hx⟩ : ∃ x, L[k]? = some x := ⟨L[k]'(by omega), by simp [hN, hlt]⟩
        obtain ⟨y, hy⟩ : ∃ y, M[k]? = some y := ⟨M[k]'(by omega), by simp [hlt, hM]⟩
        obtain ⟨c0, _⟩ := hc k x hx
        obtain ⟨d0, _⟩ := hd k y hy
        clear hc hd
        by_cases hxy : x = y
        · have hs := Lib.hid (show L.take (k + 1) = M.take (k + 1) by rw [take_snoc hx, take_snoc hy, heq.out, hxy])
          have hq : (x != y) = false := by simp [hxy]
          clear hxy hx hy heq
          go_wp2_with fail
          go_quiet (fail)
          go_wp2_with fail
          go_roundw
          case rel => exact ⟨k + 1, _, by omega, by simp, hs, rfl⟩
          case measure => first | (simp [intOf]; done) | (simp [intOf]; omega)
        · have hs := Lib.hid (HN.out (fun h => hxy (by rw [h, hy] at hx; exact (Option.some.inj hx).symm)))
          have hq : (x != y) = true := by simpa using hxy
          clear hxy hx hy heq
          go_wp2_with fail
          go_quiet (fail)
          go_wp2_with fail
          go_ret
          exact ⟨by rw [hs.out]; rfl, _, World.drewN_drewN _ _ _⟩
      · obtain rfl : k = N := by omega
        have hs := Lib.hid (HY.out (by have := heq.out; rw [List.take_of_length_le (by omega), List.take_of_length_le (by omega)] at this; exact this))
        clear heq
        go_wp2_with fail
        go_ret
        exact ⟨by rw [hs.out]; rfl, _, rfl⟩
  · have hb : (((L.length : Nat) : Int) != ((M.length : Nat) : Int)) = true := by simp; omega
    have hs := Lib.hid (show decide (L = M) = false from decide_eq_false (fun h => hlen (by rw [h])))
    clear hlen
    go_enter Try.func29, Try.ntmps29
    go_wp2_with fail
    go_ret
    exact ⟨by rw [hs.out]; rfl, 0, rfl⟩
set_option maxHeartbeats 4000000 in
theorem state_sameBlocks (v u : Value) (M M2 : List (List Int)) (w : World) (hb : RowR 10 instR w v M) (gb : RowR 10 instR w u M2) :
    Calls Try.prog 28 #[v, u] w fun e w' => e = .returned (.bool (decide (M = M2))) ∧ ∃ m, w' = w.drewN m := by
  have hlens := inst_lens hb
  have hlens2 := inst_lens gb
  have hL := hb.len
  obtain ⟨sb, cb, rfl⟩ := row_get hb
  obtain ⟨tb, db, rfl⟩ := row_get gb
  by_cases hlen : M.length = M2.length
  · have hq : (((M.length : Nat) : Int) != ((M2.length : Nat) : Int)) = false := by rw [hlen]; simp
    have HY := Lib.hid (fun h : M = M2 => (decide_eq_true h : decide (M = M2) = true))
    have HN := Lib.hid (fun h : ¬ M = M2 => (decide_eq_false h : decide (M = M2) = false))
    obtain ⟨NB, hN⟩ : ∃ N, M.length = N := ⟨_, rfl⟩
    have hM : M2.length = NB := hlen.symm.trans hN
    have HNs := Lib.hid (show M.length = NB ∧ M2.length = NB from ⟨hN, hM⟩)
    rw [hN] at hb hL
    rw [hM] at gb
    rw [hN, hM] at hq
    rw [hN, hM]
    clear hlen hN hM
    go_enter Try.func28, Try.ntmps28
    go_wp2_with fail
    go_loopw [13] (fun j wr => ∃ k m : Nat, k ≤ NB ∧ j = .int .i64 k ∧ Hid (M.take k = M2.take k) ∧ wr = w.drewN m) (fun j _ => NB - (intOf j).toNat)
    case atStart => exact ⟨0, 0, by omega, rfl, Lib.hid (by simp), rfl⟩
    case round =>
      obtain ⟨q, m, hk, rfl, hst, rfl⟩ := hrel
      by_cases hlq : q < NB
      · obtain ⟨x, hx⟩ := get_some (L := M) (n := q) (by have := HNs.out.1; omega)
        obtain ⟨y, hy⟩ := get_some (L := M2) (n := q) (by have := HNs.out.2; omega)
        obtain ⟨b, off, rfl, hbw, hc⟩ := insts_at hb (k := q) (lt_of_get hx)
        obtain ⟨b2, off2, rfl, hbw2, hd⟩ := insts_at gb (k := q) (lt_of_get hy)
        obtain ⟨hx10, hcx⟩ := hc q x hx
        obtain ⟨hy10, hdx⟩ := hd q y hy
        have HX := Lib.hid hx
        have HX2 := Lib.hid hy
        by_cases hxy : x = y
        · have hne := fun W => neq_inst W hx10 hy10
          have hnf := fun W => neq_fields W hx10 hy10
          rw [decide_eq_true hxy] at hne hnf
          have hs := Lib.hid (show M.take (q + 1) = M2.take (q + 1) by rw [take_snoc hx, take_snoc hy, hst.out, hxy])
          subst hxy
          obtain ⟨x0, x1, x2, x3, x4, x5, x6, x7, x8, x9, rfl⟩ := ten hx10
          obtain ⟨c0, c1, c2, c3, c4, c5, c6, c7, c8, c9⟩ := cells10 hcx (Below.refl _ _) hbw
          obtain ⟨d0, d1, d2, d3, d4, d5, d6, d7, d8, d9⟩ := cells10 hdx (Below.refl _ _) hbw2
          have hne : ∀ W, (binOp .neq 62 (.agg #[.int .i64 x0, .int .i64 x1, .int .i64 x2, .int .i64 x3, .int .i64 x4, .int .i64 x5, .int .i64 x6, .int .i64 x7, .int .i64 x8, .int .i64 x9]) (.agg #[.int .i64 x0, .int .i64 x1, .int .i64 x2, .int .i64 x3, .int .i64 x4, .int .i64 x5, .int .i64 x6, .int .i64 x7, .int .i64 x8, .int .i64 x9])).run Try.prog W = .ok (.bool false) W := hne
          have hnf : ∀ W, (binOp .neq 60 (.agg #[.int .i64 x0, .int .i64 x1, .int .i64 x2, .int .i64 x3, .int .i64 x4, .int .i64 x5, .int .i64 x6, .int .i64 x7, .int .i64 x8, .int .i64 x9]) (.agg #[.int .i64 x0, .int .i64 x1, .int .i64 x2, .int .i64 x3, .int .i64 x4, .int .i64 x5, .int .i64 x6, .int .i64 x7, .int .i64 x8, .int .i64 x9])).run Try.prog W = .ok (.bool false) W := hnf
          clear hc hd hx hy hcx hdx hx10 hy10 HX HX2
          go_wp2_with fail
          go_quiet (fail)
          go_wp2_with fail
          go_roundw
          case rel => exact ⟨q + 1, _, by omega, by simp, hs, by first | rfl | exact World.drewN_drewN _ _ _⟩
          case measure => first | (simp [intOf]; done) | (simp [intOf]; omega)
        · have hne := fun W => neq_inst W hx10 hy10
          rw [decide_eq_false hxy] at hne
          have hs := Lib.hid (HN.out (fun hq => hxy (by rw [hq, hy] at hx; exact (Option.some.inj hx).symm)))
          obtain ⟨x0, x1, x2, x3, x4, x5, x6, x7, x8, x9, rfl⟩ := ten hx10
          obtain ⟨y0, y1, y2, y3, y4, y5, y6, y7, y8, y9, rfl⟩ := ten hy10
          obtain ⟨c0, c1, c2, c3, c4, c5, c6, c7, c8, c9⟩ := cells10 hcx (Below.refl _ _) hbw
          obtain ⟨d0, d1, d2, d3, d4, d5, d6, d7, d8, d9⟩ := cells10 hdx (Below.refl _ _) hbw2
          have hne : ∀ W, (binOp .neq 62 (.agg #[.int .i64 x0, .int .i64 x1, .int .i64 x2, .int .i64 x3, .int .i64 x4, .int .i64 x5, .int .i64 x6, .int .i64 x7, .int .i64 x8, .int .i64 x9]) (.agg #[.int .i64 y0, .int .i64 y1, .int .i64 y2, .int .i64 y3, .int .i64 y4, .int .i64 y5, .int .i64 y6, .int .i64 y7, .int .i64 y8, .int .i64 y9])).run Try.prog W = .ok (.bool true) W := hne
          clear hc hd hx hy hcx hdx hx10 hy10 HX HX2 hxy
          go_wp2_with fail
          go_quiet (fail)
          go_wp2_with fail
          go_ret
          exact ⟨by rw [hs.out]; rfl, _, by first | rfl | exact World.drewN_drewN _ _ _⟩
      · obtain rfl : q = NB := by omega
        have hs := Lib.hid (HY.out (by have := hst.out; rw [List.take_of_length_le (by have := HNs.out.1; omega), List.take_of_length_le (by have := HNs.out.2; omega)] at this; exact this))
        clear hst
        go_wp2_with fail
        go_ret
        exact ⟨by rw [hs.out]; rfl, _, rfl⟩
  · have hq : (((M.length : Nat) : Int) != ((M2.length : Nat) : Int)) = true := by simp; omega
    have hs := Lib.hid (show decide (M = M2) = false from decide_eq_false (fun h => hlen (by rw [h])))
    clear hlen
    go_enter Try.func28, Try.ntmps28
    go_wp2_with fail
    go_ret
    exact ⟨by rw [hs.out]; rfl, 0, rfl⟩
end Go.Proofs.Ythanmbfelihkfaa
