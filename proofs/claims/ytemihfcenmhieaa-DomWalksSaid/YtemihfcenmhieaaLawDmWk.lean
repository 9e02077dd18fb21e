/- Layer 31: the walk of DomWalks. -/
import Derived.Test.YtemihfcenmhieaaDmAw
namespace Go.Proofs.Ytemihfcenmhieaa
open Go.RowKit
set_option linter.unusedSimpArgs false
set_option linter.unusedVariables false
open DM (gI okN)
set_option maxRecDepth 100000 in
set_option maxHeartbeats 4000000 in
theorem domWalks_walk (v : Value) (L : List Int) (a b : Int) (w : World) (hv : RowR 1 intR w v L) :
    Calls Try.prog 5 #[v, .int .i64 a, .int .i64 b] w fun r w' => r = .returned (.bool true) ∧ Below w.heap.size w w' := by
  have HA0 := Lib.hid (fun W (_ : Below w.heap.size w W) => law31_awake W)
  have HDo := Lib.hid (fun W (h : Below w.heap.size w W) => dom_Dominates v L a b W (hv.below intR_stable h))
  have HV := Lib.hid hv
  have hlen := hv.len
  obtain ⟨ad, cap, rfl⟩ := row_get hv
  obtain ⟨N, hN⟩ : ∃ N, L.length = N := ⟨_, rfl⟩
  have HN := Lib.hid hN
  have HZ := Lib.hid (show upB L a b = (okN N b && hitB L a (N + 1) b) by unfold upB; rw [up_hit, hN])
  rw [hN] at hlen HV HDo ⊢
  generalize upB L a b = Z at *
  clear hv hN
  by_cases h40 : N ≤ 40
  case neg =>
    have q0 : ((40 : Int) < (N : Int)) = True := eq_true (by omega)
    have q0' : (40 < N) = True := eq_true (by omega)
    clear h40
    go_enter Try.func5, Try.ntmps5
    go_wp2_with fail
    refine (HA0.out _ (Below.refl _ _)).mono ?_; rintro r w3 ⟨rfl, hb⟩
    have HBB := Lib.hid hb
    clear hb
    go_wp2_with fail
    go_ret
    exact ⟨rfl, HBB.out⟩
  have q0 : ((40 : Int) < (N : Int)) = False := eq_false (by omega)
  have q0' : (40 < N) = False := eq_false (by omega)
  have hN41 : N ≤ 9223372036854775806 := by omega
  clear h40
  go_enter Try.func5, Try.ntmps5
  go_wp2_with fail
  go_loopw [7, 8, 9] (fun s7 s8 s9 wr => ∃ (k : Nat) (z : Int), k ≤ N + 1 ∧ s7 = .bool false ∧ s8 = .int .i64 z ∧ s9 = .int .i64 k ∧ Hid (okN N b = true → hitB L a (N + 1) b = hitB L a (N + 1 - k) z) ∧ wr = w) (fun _ _ s9 _ => N + 1 - (intOf s9).toNat)
  case atStart => exact ⟨0, b, by omega, rfl, rfl, rfl, Lib.hid (fun _ => rfl), rfl⟩
  case round =>
    obtain ⟨k, z, hk, rfl, rfl, rfl, hE, hwr⟩ := hrel
    have hwr := hwr.symm
    subst hwr
    by_cases hlt : k ≤ N
    case neg =>
      obtain rfl : k = N + 1 := by omega
      have qk : (((N + 1 : Nat) : Int) ≤ (N : Int)) = False := eq_false (by omega)
      have qk' : ((N : Int) + 1 ≤ (N : Int)) = False := eq_false (by omega)
      have qk2 : (N + 1 ≤ N) = False := eq_false (by omega)
      have qk3 : ((N : Int) < (N : Int) + 1) = True := eq_true (by omega)
      have hR := Lib.hid (show Z = false by
        rw [HZ.out]
        cases hb : okN N b
        · rfl
        · rw [hE.out hb, Nat.sub_self]; rfl)
      clear hE hlt hk
      go_wp2_with fail
      refine (HDo.out _ (Below.refl _ _)).mono ?_; rintro r w2 ⟨rfl, hb⟩
      rw [hR.out]
      have HB2 := Lib.hid hb
      clear hb
      go_wp2_with fail
      refine (HA0.out _ HB2.out).mono ?_; rintro r w3 ⟨rfl, hb⟩
      have HBB := Lib.hid (HB2.out.trans (hb.mono HB2.out.size))
      clear hb
      go_wp2_with fail
      go_ret
      exact ⟨rfl, HBB.out⟩
    have qk : ((k : Int) ≤ (N : Int)) = True := eq_true (by omega)
    have qk' : (k ≤ N) = True := eq_true hlt
    have hk62 : k ≤ 9223372036854775806 := by omega
    have HK := Lib.hid hlt
    by_cases hb0 : 0 ≤ b
    case neg =>
      have p0 : (0 ≤ b) = False := eq_false hb0
      have hR := Lib.hid (show Z = false by rw [HZ.out, show okN N b = false from decide_eq_false (fun h => hb0 h.1)]; rfl)
      clear hE hlt hk hb0
      go_wp2_with fail
      refine (HDo.out _ (Below.refl _ _)).mono ?_; rintro r w2 ⟨rfl, hb⟩
      rw [hR.out]
      have HB2 := Lib.hid hb
      clear hb
      go_wp2_with fail
      refine (HA0.out _ HB2.out).mono ?_; rintro r w3 ⟨rfl, hb⟩
      have HBB := Lib.hid (HB2.out.trans (hb.mono HB2.out.size))
      clear hb
      go_wp2_with fail
      go_ret
      exact ⟨rfl, HBB.out⟩
    have p0 : (0 ≤ b) = True := eq_true hb0
    by_cases hb1 : b < (N : Int)
    case neg =>
      have p1 : (b < (N : Int)) = False := eq_false hb1
      have hR := Lib.hid (show Z = false by rw [HZ.out, show okN N b = false from decide_eq_false (fun h => hb1 h.2)]; rfl)
      clear hE hlt hk hb0 hb1
      go_wp2_with fail
      refine (HDo.out _ (Below.refl _ _)).mono ?_; rintro r w2 ⟨rfl, hb⟩
      rw [hR.out]
      have HB2 := Lib.hid hb
      clear hb
      go_wp2_with fail
      refine (HA0.out _ HB2.out).mono ?_; rintro r w3 ⟨rfl, hb⟩
      have HBB := Lib.hid (HB2.out.trans (hb.mono HB2.out.size))
      clear hb
      go_wp2_with fail
      go_ret
      exact ⟨rfl, HBB.out⟩
    have p1 : (b < (N : Int)) = True := eq_true hb1
    have hokb : okN N b = true := decide_eq_true ⟨hb0, hb1⟩
    have HE := Lib.hid (show Z = (if a = z then true else if okN N z = true then hitB L a (N - k) (gI L z.toNat) else false) by
      rw [HZ.out, hokb, Bool.true_and, hE.out hokb, show N + 1 - k = (N - k) + 1 by omega]
      show (if a = z then true else if okN L.length z = true then _ else _) = _
      rw [HN.out])
    have HEb := Lib.hid (And.intro hokb hE.out)
    clear hE hlt hk hb0 hb1 hokb
    by_cases haz : a = z
    · subst haz
      have eaz : (a == a) = true := by simp
      have hR := Lib.hid (show Z = true by rw [HE.out, if_pos rfl])
      by_cases ha0 : 0 ≤ a
      · have r0 : (0 ≤ a) = True := eq_true ha0
        have r0' : (a < 0) = False := eq_false (by omega)
        by_cases ha1 : a < (N : Int)
        · have r1 : (a < (N : Int)) = True := eq_true ha1
          have r1' : ((N : Int) ≤ a) = False := eq_false (by omega)
          clear ha0 ha1
          go_wp2_with fail
          refine (HDo.out _ (Below.refl _ _)).mono ?_; rintro r w2 ⟨rfl, hb⟩
          rw [hR.out]
          have HB2 := Lib.hid hb
          clear hb
          go_wp2_with fail
          refine (HA0.out _ HB2.out).mono ?_; rintro r w3 ⟨rfl, hb⟩
          have HBB := Lib.hid (HB2.out.trans (hb.mono HB2.out.size))
          clear hb
          go_wp2_with fail
          go_ret
          exact ⟨rfl, HBB.out⟩
        · have r1 : (a < (N : Int)) = False := eq_false ha1
          have r1' : ((N : Int) ≤ a) = True := eq_true (by omega)
          clear ha0 ha1
          go_wp2_with fail
          refine (HDo.out _ (Below.refl _ _)).mono ?_; rintro r w2 ⟨rfl, hb⟩
          rw [hR.out]
          have HB2 := Lib.hid hb
          clear hb
          go_wp2_with fail
          refine (HA0.out _ HB2.out).mono ?_; rintro r w3 ⟨rfl, hb⟩
          have HBB := Lib.hid (HB2.out.trans (hb.mono HB2.out.size))
          clear hb
          go_wp2_with fail
          go_ret
          exact ⟨rfl, HBB.out⟩
      · have r0 : (0 ≤ a) = False := eq_false ha0
        have r0' : (a < 0) = True := eq_true (by omega)
        clear ha0
        go_wp2_with fail
        refine (HDo.out _ (Below.refl _ _)).mono ?_; rintro r w2 ⟨rfl, hb⟩
        rw [hR.out]
        have HB2 := Lib.hid hb
        clear hb
        go_wp2_with fail
        refine (HA0.out _ HB2.out).mono ?_; rintro r w3 ⟨rfl, hb⟩
        have HBB := Lib.hid (HB2.out.trans (hb.mono HB2.out.size))
        clear hb
        go_wp2_with fail
        go_ret
        exact ⟨rfl, HBB.out⟩
    · have eaz : (z == a) = false := by simpa using fun h => haz h.symm
      by_cases hz0 : 0 ≤ z
      case neg =>
        have r0 : (0 ≤ z) = False := eq_false hz0
        have r0' : (z < 0) = True := eq_true (by omega)
        have hR := Lib.hid (show Z = false by rw [HE.out, if_neg haz, if_neg (fun h => hz0 (of_decide_eq_true h).1)])
        clear hz0 haz
        go_wp2_with fail
        refine (HDo.out _ (Below.refl _ _)).mono ?_; rintro r w2 ⟨rfl, hb⟩
        rw [hR.out]
        have HB2 := Lib.hid hb
        clear hb
        go_wp2_with fail
        refine (HA0.out _ HB2.out).mono ?_; rintro r w3 ⟨rfl, hb⟩
        have HBB := Lib.hid (HB2.out.trans (hb.mono HB2.out.size))
        clear hb
        go_wp2_with fail
        go_ret
        exact ⟨rfl, HBB.out⟩
      have r0' : (z < 0) = False := eq_false (by omega)
      obtain ⟨j, rfl⟩ : ∃ j : Nat, z = (j : Int) := ⟨z.toNat, by omega⟩
      by_cases hz1 : j < N
      case neg =>
        have r1' : ((N : Int) ≤ (j : Int)) = True := eq_true (by omega)
        have r1'' : (N ≤ j) = True := eq_true (by omega)
        have hR := Lib.hid (show Z = false by rw [HE.out, if_neg haz, if_neg (fun h => hz1 (by have := (of_decide_eq_true h).2; omega))])
        clear hz0 haz hz1
        go_wp2_with fail
        refine (HDo.out _ (Below.refl _ _)).mono ?_; rintro r w2 ⟨rfl, hb⟩
        rw [hR.out]
        have HB2 := Lib.hid hb
        clear hb
        go_wp2_with fail
        refine (HA0.out _ HB2.out).mono ?_; rintro r w3 ⟨rfl, hb⟩
        have HBB := Lib.hid (HB2.out.trans (hb.mono HB2.out.size))
        clear hb
        go_wp2_with fail
        go_ret
        exact ⟨rfl, HBB.out⟩
      have r1' : ((N : Int) ≤ (j : Int)) = False := eq_false (by omega)
      have r1'' : (N ≤ j) = False := eq_false (by omega)
      have r2 : ((j : Int) < (N : Int)) = True := eq_true (by omega)
      have r2' : (j < N) = True := eq_true hz1
      have hokz : okN N (j : Int) = true := decide_eq_true (by omega)
      obtain ⟨x, hx⟩ := get_some (L := L) (n := j) (by rw [HN.out]; exact hz1)
      obtain ⟨b1, off, rfl, hbw, hc⟩ := ints_at HV.out (k := j) (by rw [HN.out]; exact hz1)
      have hc := (hc j x hx).1
      have hxe : gI L j = x := by unfold gI; simp [List.getD, hx]
      have HX := Lib.hid (show okN N b = true → hitB L a (N + 1) b = hitB L a (N + 1 - (k + 1)) x from fun hb => by
        have h1 := HEb.out.2 hb
        rw [h1, show N + 1 - k = (N - k) + 1 by have := HK.out; omega]
        show (if a = (j : Int) then true else if okN L.length (j : Int) = true then hitB L a (N - k) (gI L (j : Int).toNat) else false) = _
        rw [if_neg haz, HN.out, if_pos hokz, Int.toNat_natCast, hxe, show N + 1 - (k + 1) = N - k by omega])
      clear HE HEb hx hxe hz0 hz1 haz hokz
      go_wp2_with fail
      go_roundw
      case rel => exact ⟨k + 1, x, by have := HK.out; omega, rfl, rfl, by simp, HX, by first | rfl | trivial⟩
      case measure => have := HK.out; first | (simp [intOf]; done) | (simp [intOf]; omega)
end Go.Proofs.Ytemihfcenmhieaa
