/- Sets: cut. -/
import Derived.Test.YtemihfcenmhieaaBitB
import Derived.Test.YtemihfcenmhieaaCopyG
namespace Go.Proofs.Ytemihfcenmhieaa
open Go.RowKit
set_option linter.unusedSimpArgs false
set_option linter.unusedVariables false
theorem grown_below {w w' : World} {B g : Nat} (h : w.grownBy w' (some g)) (hB : B ≤ g) (hs : B ≤ w.heap.size) : Below B w w' := ⟨h.os, h.tape, h.output, h.size, fun k hk => h.block k (by omega) (by simp; omega)⟩
theorem grown_other {w w' : World} {g k : Nat} {o : Obj} (h : w.grownBy w' (some g)) (hk : w.heap[k]? = some o) (hne : k ≠ g) : w'.heap[k]? = some o := (h.block k (heap_lt hk) (fun e => hne (Option.some.inj e))).trans hk
theorem splice_copy (m : Nat) (vs : List Nat) : (splice (uV (List.replicate m 0)).toList 0 ((List.range (min vs.length m)).map fun k => Value.int .u64 (vs.getD k 0 : Nat))).toArray = uV (copyW m vs) := by
  apply Array.ext_getElem?
  intro i
  simp only [splice, uV, copyW, List.take_zero, List.nil_append, List.getElem?_toArray, List.getElem?_map, List.getElem?_append, List.length_map, List.length_range, List.getElem?_drop, List.map_replicate, List.getElem?_replicate, Nat.zero_add]
  by_cases h1 : i < min vs.length m
  · have h2 : i < m := by omega
    rw [if_pos h1]
    simp [h1, h2]
  · rw [if_neg h1]
    by_cases h2 : i < m
    · have h3 : ¬ i < vs.length := by omega
      have h4 : min vs.length m + (i - min vs.length m) = i := by omega
      rw [h4, if_pos h2]
      simp [h2, h3]
    · have h4 : ¬ min vs.length m + (i - min vs.length m) < m := by omega
      rw [if_neg h4]
      simp [h2]
set_option maxHeartbeats 2000000 in
theorem bits_cut (v : Value) (x : List Bool) (n : Nat) (hn : n ≤ 65536) (w : World) (hx : SetR w v x) : Calls Try.prog 26 #[v, .int .i64 n] w fun e w' => ∃ g ws, e = .returned (.agg #[.int .i64 n, .slice (some ⟨g, 0, none⟩) ((n + 63) / 64) ((n + 63) / 64)]) ∧ FreshW w w' g ws ∧ Wds (resize x n) ws := by
  have hu : Try.prog.underlying 33 = some (.slice 49) := Try.underlying33
  have hsz : (Try.prog.info? 49).map (·.size) = some 1 := by kernel_rfl
  have hN := fun W => bits_New (n : Int) W
  rw [show clampR (n : Int) = n by unfold clampR; split <;> (try split) <;> omega] at hN
  obtain ⟨vs, a, c, rfl, hvs, hlen, hcell⟩ := hx
  obtain ⟨m, hm⟩ : ∃ m, (n + 63) / 64 = m := ⟨_, rfl⟩
  obtain ⟨K, hK⟩ : ∃ K, vs.length = K := ⟨_, rfl⟩
  obtain ⟨X, hX⟩ : ∃ X, x.length = X := ⟨_, rfl⟩
  have HM := Lib.hid hm
  have HK := Lib.hid hK
  have HXL := Lib.hid hX
  rw [hm] at hN ⊢
  rw [hK] at hcell ⊢
  rw [hX] at hlen ⊢
  have HC := Lib.hid hcell
  have HV := Lib.hid hvs
  clear hm hK hX hcell hvs
  -- what is copied
  obtain ⟨cs, hcs⟩ : ∃ cs, ((List.range (min K m)).map fun k => Value.int .u64 (vs.getD k 0 : Nat)) = cs := ⟨_, rfl⟩
  have HS := Lib.hid hcs
  have hcl : cs.length = min K m := by rw [← hcs]; simp
  have hc1 : ∀ u ∈ cs, u.oneCell' = true := by
    intro u hu
    rw [← hcs] at hu
    obtain ⟨k, _, rfl⟩ := List.mem_map.1 hu
    rfl
  have Hcl := Lib.hid hcl
  have Hc1 := Lib.hid hc1
  clear hcs hcl hc1
  obtain ⟨W0, hW0⟩ : ∃ W0, W0 = (w.alloc (.cells #[.int .i64 X, .slice a K c] 35)).alloc (.cells #[.int .i64 0, .slice none 0 0] 35) := ⟨_, rfl⟩
  have o0 : W0.heap[w.heap.size]? = some (.cells #[.int .i64 X, .slice a K c] 35) := by rw [hW0, get_past (by simp)]; exact get_last rfl
  have o1 : W0.heap[w.heap.size + 1]? = some (.cells #[.int .i64 0, .slice none 0 0] 35) := by rw [hW0]; exact get_last (by simp)
  have hs0 : W0.heap.size = w.heap.size + 1 + 1 := by rw [hW0]; simp
  have b0 : Below w.heap.size w W0 := by rw [hW0]; exact by (repeat' (first | (with_reducible exact Below.refl _ _) | (with_reducible assumption) | (with_reducible refine below_drewN ?_ _) | (with_reducible refine Below.alloc ?_ ?_ _) | (with_reducible refine Below.drew ?_) | (with_reducible refine Below.setCell ?_ ?_ _) | go_size))
  have H0 := Lib.hid hW0
  have B0 := Lib.hid b0
  clear b0
  go_enter Try.func26, Try.ntmps26
  go_wp2_with fail
  rw [← H0.out]
  refine (hN _).mono ?_; rintro e W1 ⟨g, rfl, hF⟩
  have hg1 : w.heap.size + 1 + 1 ≤ g := by rw [← hs0]; exact hF.base
  have hgl := heap_lt hF.obj
  have p0 := obj_below o0 hF.below (heap_lt o0)
  have p1 := obj_below o1 hF.below (heap_lt o1)
  obtain ⟨W2, hW2⟩ : ∃ W2, W2 = W1.alloc (.cells #[.int .i64 n, .slice (some ⟨g, 0, none⟩) m m] 35) := ⟨_, rfl⟩
  have q0 := (show W2.heap[w.heap.size]? = some (.cells #[.int .i64 X, .slice a K c] 35) from by rw [hW2, get_past (heap_lt p0)]; exact p0)
  have q1 := (show W2.heap[w.heap.size + 1]? = some (.cells #[.int .i64 0, .slice none 0 0] 35) from by rw [hW2, get_past (heap_lt p1)]; exact p1)
  have q2 := (show W2.heap[W1.heap.size]? = some (.cells #[.int .i64 n, .slice (some ⟨g, 0, none⟩) m m] 35) from by rw [hW2]; exact get_last rfl)
  have qg := (show W2.heap[g]? = some (.cells (uV (List.replicate m 0)) 49) from by rw [hW2, get_past hgl]; exact hF.obj)
  have HB2 := Lib.hid (show Below w.heap.size w W2 from by rw [hW2]; exact (B0.out.trans (hF.below.mono (by omega))).alloc (by have := hF.below.size; omega) _)
  have HQ0 := Lib.hid q0
  have HQ1 := Lib.hid q1
  have HQ2 := Lib.hid q2
  have HQG := Lib.hid qg
  have k01 : W1.cell? ⟨w.heap.size, 1, none⟩ = some (.slice a K c) := obj_cell p0 (i := 1) rfl
  have cp := @cell_past
  have z0 := heap_lt p0
  have HW2 := Lib.hid hW2
  have hsrc : 0 < cs.length → ∃ ad, a = some ad ∧ ∀ j v, cs[j]? = some v → W2.cell? (ad.add j) = some v := by
    intro h0
    rw [Hcl.out] at h0
    obtain ⟨b, o, e, l1, l2, l3, l4⟩ := HC.out (by omega)
    refine ⟨_, e, fun j v hv => ?_⟩
    have hj : j < min K m := by have := lt_of_get hv; rw [Hcl.out] at this; exact this
    rw [← HS.out] at hv
    have hv' : Value.int .u64 (vs.getD j 0 : Nat) = v := by simpa [hj] using hv
    rw [← hv', add_at]
    exact (HB2.out.cell (p := ⟨b, o + j, none⟩) l3).trans (l4 j (by omega))
  have HSR := Lib.hid hsrc
  clear hF p0 p1 q0 q1 q2 qg hW2 hsrc hN o0 o1 hW0
  have HCX := Lib.hid (show uV (List.replicate m 0) = (uV (List.replicate m 0)).toList.toArray by simp)
  rw [HCX.out] at HQG
  obtain ⟨cur, hcur⟩ : ∃ cur, (uV (List.replicate m 0)).toList = cur := ⟨_, rfl⟩
  rw [hcur] at HQG
  have hcurl : cur.length = m := by rw [← hcur]; simp [uV]
  have Hcurl := Lib.hid hcurl
  have HCU := Lib.hid hcur
  clear hcur hcurl HCX
  go_wp2_with (first | (with_reducible show wpList _ _ _ _ _ _; rw [← HW2.out]; go_loud (refine wpList_copy_grown (o := ⟨some 12, _, _, _, _, _⟩) rfl (.tmp 9) (.tmp 11) 33 33 rfl 49 hu hsz _ _ _ _ _ _ rfl rfl g 0 cur 49 HQG.out cs (by rw [Hcl.out]) (fun h0 => ⟨rfl, HSR.out h0⟩) (by rw [Hcl.out, Hcurl.out]; omega) Hc1.out ?_); intro W3 HG3 hg3; have HGR := Lib.hid hg3; have j2 := grown_other hg3 HQ2.out (by omega); have j1 := Lib.hid (grown_other hg3 HQ1.out (by omega)); have c20 : W3.cell? ⟨W1.heap.size, 0, none⟩ = some (.int .i64 n) := obj_cell j2 (i := 0) rfl; have c21 : W3.cell? ⟨W1.heap.size, 1, none⟩ = some (.slice (some ⟨g, 0, none⟩) m m) := obj_cell j2 (i := 1) rfl; have J2 := Lib.hid j2; clear hg3 j2) | fail)
  have hcw : W3.heap[g]? = some (.cells (uV (copyW m vs)) 49) := by
    rw [HG3.out, ← HS.out, ← HCU.out, ← HK.out, splice_copy]
  refine (bits_trim n g m (copyW m vs) W3 hcw (copyW_len _ _) HM.out.symm hn (fun k => by
    rw [copyW_get]; split
    · exact word_lt HV.out k
    · omega)).mono ?_
  rintro e W4 ⟨hg4, hr4, rfl⟩
  have e2 := grown_other hr4 J2.out (by omega)
  have e1 := grown_other hr4 j1.out (by omega)
  have c20 : W4.cell? ⟨W1.heap.size, 0, none⟩ = some (.int .i64 n) := obj_cell e2 (i := 0) rfl
  have c21 : W4.cell? ⟨W1.heap.size, 1, none⟩ = some (.slice (some ⟨g, 0, none⟩) m m) := obj_cell e2 (i := 1) rfl
  have f0 := obj_frozen e1 0
  have f1 := obj_frozen e1 1
  have d0 : W4.cell? ⟨w.heap.size + 1, 0, none⟩ = some (.int .i64 0) := obj_cell e1 (i := 0) rfl
  have d1 : W4.cell? ⟨w.heap.size + 1, 1, none⟩ = some (.slice none 0 0) := obj_cell e1 (i := 1) rfl
  have HE := Lib.hid (show FreshW w ((W4.setCell ⟨w.heap.size + 1, 0, none⟩ (.int .i64 n)).setCell ⟨w.heap.size + 1, 1, none⟩ (.slice (some ⟨g, 0, none⟩) m m)) g (trimW n (copyW m vs)) from
    ⟨by omega, by rw [get_set (by show w.heap.size + 1 ≠ _; omega), get_set (by show w.heap.size + 1 ≠ _; omega)]; exact hg4, by
      have hb3 := grown_below HGR.out (B := w.heap.size) (by omega) HB2.out.size
      have hb4 := grown_below hr4 (B := w.heap.size) (by omega) (Nat.le_trans HB2.out.size hb3.size)
      exact ((HB2.out.trans (hb3.trans hb4)).setCell (by show w.heap.size ≤ w.heap.size + 1; omega) _).setCell (by show w.heap.size ≤ w.heap.size + 1; omega) _⟩)
  have g1 := obj_self (i := 0) (x := .int .i64 n) e1
  have G2 := Lib.hid (obj_self (i := 1) (x := .slice (some ⟨g, 0, none⟩) m m) g1)
  have f3 := obj_frozen g1 1
  have y0 := obj_cell G2.out (i := 0) rfl
  have y1 := obj_cell G2.out (i := 1) rfl
  clear hcw hg4 hr4 e2 g1
  go_wp2_with fail
  refine bodyPost_ret (by simp [results, Try.results26, go_sem, y0, y1]; try rfl) rfl ?_
  exact ⟨g, _, rfl, HE.out, by rw [← HM.out]; exact wds_cut HV.out n⟩
end Go.Proofs.Ytemihfcenmhieaa
