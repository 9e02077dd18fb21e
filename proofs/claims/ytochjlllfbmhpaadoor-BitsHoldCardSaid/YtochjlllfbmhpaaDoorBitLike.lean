/- Layer 6: both have the same; the program answers. -/
import Derived.Test.YtochjlllfbmhpaaDoorBitOf
namespace Go.Proofs.YtochjlllfbmhpaaDoor
open Go.RowKit
set_option linter.unusedSimpArgs false
set_option linter.unusedVariables false
theorem lstI_succ (x : List Bool) (k : Nat) : lstI x (k + 1) = lstI x k ++ (if x.getD k false then [(k : Int)] else []) := by
  unfold lstI
  rw [lstN_succ, List.map_append]
  congr 1
  cases x.getD k false <;> rfl
set_option maxHeartbeats 1000000 in
theorem law06_like (v u : Value) (x : List Bool) (w : World) (hx : SetR w v x) (hu : RowR 1 boolR w u x) (hT : DB w) : Calls Tryd.prog 8 #[v, u] w fun e w' => e = .returned (.bool true) ∧ Below w.heap.size w w' := by
  have hlen : x.length ≤ 65536 := by obtain ⟨_, _, _, _, _, h, _⟩ := hx; exact h
  have HA := Lib.hid (fun W (h : Below w.heap.size w W) => bits_List v x W (hx.below h) (hT.below h))
  have HB := Lib.hid (fun W (h : Below w.heap.size w W) => ref06_List u x W (hu.below boolR_stable h) hlen (lstI x) ⟨rfl, lstI_succ x⟩)
  have HC := Lib.hid (fun W (h : Below w.heap.size w W) => bits_Count v x W (hx.below h))
  have HR := Lib.hid (fun W (h : Below w.heap.size w W) => bits_Room v x W (hx.below h))
  have hll : (lst x).length = (lstI x x.length).length := by rw [lstI_len]; rfl
  have hl65 : (lstI x x.length).length ≤ 65536 := by rw [lstI_len]; exact Nat.le_trans (lstN_le _ _) hlen
  rw [hll] at HC
  obtain ⟨ws, a, c, rfl, _⟩ := hx
  obtain ⟨a2, c2, rfl⟩ := row_get hu
  clear hu hll hT
  obtain ⟨n, hn⟩ : ∃ n, x.length = n := ⟨_, rfl⟩
  rw [hn] at HA HB HC HR hlen hl65 ⊢
  clear hn
  obtain ⟨l, hl⟩ : ∃ l, lstI x n = l := ⟨_, rfl⟩
  rw [hl] at HA HB HC hl65
  obtain ⟨N, hN⟩ : ∃ N, l.length = N := ⟨_, rfl⟩
  have HN := Lib.hid hN
  rw [hN] at HC hl65
  generalize ws.length = K at *
  obtain ⟨W0, hW0⟩ : ∃ W0, W0 = w.alloc (.cells #[.int .i64 n, .slice a K c] 26) := ⟨_, rfl⟩
  have B0 := Lib.hid (show Below w.heap.size w W0 from by rw [hW0]; exact by (repeat' (first | (with_reducible exact Below.refl _ _) | (with_reducible assumption) | (with_reducible refine below_drewN ?_ _) | (with_reducible refine Below.alloc ?_ ?_ _) | (with_reducible refine Below.drew ?_) | (with_reducible refine Below.setCell ?_ ?_ _) | go_size)))
  have o0 : W0.heap[w.heap.size]? = some (.cells #[.int .i64 n, .slice a K c] 26) := by rw [hW0]; exact get_last rfl
  have O0 := Lib.hid o0
  have H0 := Lib.hid hW0
  clear o0 hW0 hl hN
  go_enter Tryd.func8, Tryd.ntmps8
  go_wp2_with fail
  rw [← H0.out]
  refine (HA.out _ B0.out).mono ?_; rintro e W1 ⟨r1, rfl, hr1, hb1⟩
  have hB1 := B0.out.trans (hb1.mono B0.out.size)
  obtain ⟨d1, k1, rfl⟩ := row_get hr1
  rw [HN.out]
  go_wp2_with fail
  refine (HB.out _ hB1).mono ?_; rintro e W2 ⟨r2, rfl, hr2, hb2⟩
  have hB2 := hB1.trans (hb2.mono hB1.size)
  obtain ⟨d2, k2, rfl⟩ := row_get hr2
  rw [HN.out]
  have o2 := obj_below (obj_below O0.out hb1 (heap_lt O0.out)) hb2 (by have := heap_lt O0.out; have := hb1.size; omega)
  have c0 : W2.cell? ⟨w.heap.size, 0, none⟩ = some (.int .i64 n) := obj_cell o2 (i := 0) rfl
  have c1 : W2.cell? ⟨w.heap.size, 1, none⟩ = some (.slice a K c) := obj_cell o2 (i := 1) rfl
  have HR1 := Lib.hid (hr1.below intR_stable hb2)
  have HR2 := Lib.hid hr2
  have HO2 := Lib.hid o2
  have HB2 := Lib.hid hB2
  have e1 : ((n : Int) != (n : Int)) = false := by simp
  have e2 : ((N : Int) != (N : Int)) = false := by simp
  clear hr1 hr2 hb1 hb2 hB1 hB2 o2 HA HB
  go_wp2_with fail
  refine (HR.out _ HB2.out).mono ?_; rintro e W3 ⟨rfl, hb3⟩
  have o3 := obj_below HO2.out hb3 (heap_lt HO2.out)
  have c0 : W3.cell? ⟨w.heap.size, 0, none⟩ = some (.int .i64 n) := obj_cell o3 (i := 0) rfl
  have c1 : W3.cell? ⟨w.heap.size, 1, none⟩ = some (.slice a K c) := obj_cell o3 (i := 1) rfl
  have HB3 := Lib.hid (HB2.out.trans (hb3.mono HB2.out.size))
  have HR1 := Lib.hid (HR1.out.below intR_stable hb3)
  have HR2 := Lib.hid (HR2.out.below intR_stable hb3)
  clear hb3 o3
  go_wp2_with fail
  refine (HC.out _ HB3.out).mono ?_; rintro e W4 ⟨rfl, hb4⟩
  have HB4 := Lib.hid (HB3.out.trans (hb4.mono HB3.out.size))
  have HR1 := Lib.hid (HR1.out.below intR_stable hb4)
  have HR2 := Lib.hid (HR2.out.below intR_stable hb4)
  clear hb4 c0 c1
  go_wp2_with fail
  go_loopw [7] (fun j wr => ∃ k m : Nat, k ≤ N ∧ j = .int .i64 k ∧ wr = W4.drewN m) (fun j _ => N - (intOf j).toNat)
  case atStart => exact ⟨0, 0, by omega, rfl, rfl⟩
  case round =>
    obtain ⟨k, m, hk, rfl, rfl⟩ := hrel
    by_cases hlt : k < N
    · have qk : ((k : Int) < (N : Int)) = True := eq_true (by omega)
      have qk' : (k < N) = True := eq_true hlt
      obtain ⟨b1, off1, rfl, hbw1, hc1⟩ := ints_at (k := k) HR1.out (by rw [HN.out]; exact hlt)
      obtain ⟨b2, off2, rfl, hbw2, hc2⟩ := ints_at (k := k) HR2.out (by rw [HN.out]; exact hlt)
      obtain ⟨z, hz⟩ := get_some (L := l) (n := k) (by rw [HN.out]; exact hlt)
      have f1 := (hc1 k z hz).1
      have f2 := (hc2 k z hz).1
      have g0 : (z != z) = false := by simp
      have hk65 : k ≤ 65536 := by omega
      have HLT := Lib.hid hlt
      clear hc1 hc2 hz hlt
      go_wp2_with fail
      go_quiet (fail)
      go_wp2_with fail
      go_roundw
      case rel => exact ⟨k + 1, _, by have := HLT.out; omega, by simp, rfl⟩
      case measure => have := HLT.out; first | (simp [intOf]; done) | (simp [intOf]; omega)
    · obtain rfl : k = N := by omega
      have qk : ((k : Int) < (k : Int)) = False := eq_false (by omega)
      have qk' : (k < k) = False := eq_false (by omega)
      go_wp2_with fail
      go_ret
      exact ⟨rfl, HB4.out.trans (Below_drewN _ _ _)⟩
theorem awake_list : lstI (withB (withB (List.replicate 9 false) 5) 2) 9 = [2, 5] := by decide
set_option maxHeartbeats 1000000 in
theorem law06_awake (w : World) (hT : DB w) : Calls Tryd.prog 5 #[] w fun e w' => e = .returned (.bool true) ∧ Below w.heap.size w w' := by
  have HT := Lib.hid hT
  clear hT
  go_enter Tryd.func5, Tryd.ntmps5
  go_wp2_with fail
  refine (bits_New 9 w).mono ?_; rintro e W1 ⟨g, rfl, hF⟩
  have hs0 := hF.set (x := List.replicate (clampR 9) false) (wds_none _) (by decide) (m := (clampR 9 + 63) / 64) (by simp)
  rw [List.length_replicate] at hs0
  have HB1 := Lib.hid hF.below
  generalize Value.agg #[.int .i64 (clampR 9), .slice (some ⟨g, 0, none⟩) ((clampR 9 + 63) / 64) ((clampR 9 + 63) / 64)] = v1 at *
  clear hF
  go_wp2_with fail
  refine (bits_With v1 _ 5 W1 hs0).mono ?_; rintro e W2 ⟨v2, rfl, hs2, hb2⟩
  have HB2 := Lib.hid (HB1.out.trans (hb2.mono HB1.out.size))
  clear hb2 hs0
  go_wp2_with fail
  refine (bits_With v2 _ 2 W2 hs2).mono ?_; rintro e W3 ⟨v3, rfl, hs3, hb3⟩
  have HB3 := Lib.hid (HB2.out.trans (hb3.mono HB2.out.size))
  clear hb3 hs2
  go_wp2_with fail
  refine (bits_List v3 _ W3 hs3 (HT.out.below HB3.out)).mono ?_; rintro e W4 ⟨r, rfl, hr, hb4⟩
  have hl : (withB (withB (List.replicate (clampR 9) false) 5) 2).length = 9 := by decide
  rw [hl, show clampR 9 = 9 by decide, awake_list] at hr
  have HB4 := Lib.hid (HB3.out.trans (hb4.mono HB3.out.size))
  obtain ⟨b, off, cap, rfl, h0, h1, h2, h3, h4⟩ : ∃ b off cap, r = .slice (some ⟨b, off, none⟩) 2 cap ∧ 0 < 2 ∧ 2 ≤ cap ∧ cap ≤ maxLen ∧ b < W4.heap.size ∧ ∀ i x, ([2, 5] : List Int)[i]? = some x → ∃ C : List Value, C.length = 1 ∧ (∀ j u, C[j]? = some u → W4.cell? ⟨b, off + i * 1 + j, none⟩ = some u) ∧ intR W4 C x := by
    rcases hr with ⟨_, _, _, h, _⟩ | ⟨b, off, cap, h⟩
    · cases h
    · exact ⟨b, off, cap, h⟩
  obtain ⟨C0, _, g0, e0, _⟩ := h4 0 2 rfl
  obtain ⟨C1, _, g1, e1, _⟩ := h4 1 5 rfl
  subst e0 e1
  have k0 : W4.cell? ⟨b, off, none⟩ = some (.int .i64 2) := by simpa using g0 0 _ rfl
  have k1 : W4.cell? ⟨b, off + 1, none⟩ = some (.int .i64 5) := by simpa using g1 0 _ rfl
  have h2' : cap ≤ 9223372036854775807 := h2
  clear h4 g0 g1 hr hs3 hl hb4 h2
  go_wp2_with fail
  go_ret
  exact ⟨rfl, HB4.out⟩
end Go.Proofs.YtochjlllfbmhpaaDoor
