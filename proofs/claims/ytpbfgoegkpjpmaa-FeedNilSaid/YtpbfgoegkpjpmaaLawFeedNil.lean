/- Layer 51: the walk of FeedNil. -/
import Derived.Test.YtpbfgoegkpjpmaaFeedE
import Derived.Test.YtpbfgoegkpjpmaaMoreB
namespace Go.Proofs.Ytpbfgoegkpjpmaa
open Go.RowKit Go.Conc
set_option linter.unusedSimpArgs false
set_option linter.unusedVariables false
set_option maxHeartbeats 8000000 in
theorem feedNil_walk (v : Value) (L : List Int) (n : Int) (w : World) (hv : RowR 1 intR w v L) :
    Calls Try.prog 4 #[.agg #[v, .int .i64 n]] w fun e w' => e = .returned (.bool true) ∧ Below w.heap.size w w' := by
  obtain ⟨i, hi, hz, hsize, hby⟩ : ∃ i, Try.prog.info? 3 = some i ∧ i.zero = some (.int .i64 0) ∧ i.size = 1 ∧ i.bytes = 8 := ⟨(Try.prog.info? 3).get!, by kernel_rfl, by kernel_rfl, by kernel_rfl, by kernel_rfl⟩
  have hAw := law51_awake
  obtain ⟨sv, cv, rfl⟩ := row_get hv
  obtain ⟨N, hN⟩ : ∃ N, L.length = N := ⟨_, rfl⟩
  have HN := Lib.hid hN
  rw [hN] at hv ⊢
  clear hN
  obtain ⟨W1, hW1⟩ : ∃ W1, W1 = w.alloc (.cells #[.slice sv N cv, .int .i64 n] 30) := ⟨_, rfl⟩
  have hB1 : Below w.heap.size w W1 := by rw [hW1]; exact by (repeat' (first | (with_reducible exact Below.refl _ _) | (with_reducible assumption) | (with_reducible refine below_drewN ?_ _) | (with_reducible refine Below.alloc ?_ ?_ _) | (with_reducible refine Below.drew ?_) | (with_reducible refine Below.setCell ?_ ?_ _) | go_size))
  have hsz1 : W1.heap.size = w.heap.size + 1 := by rw [hW1]; simp
  have hj1 : W1.heap[w.heap.size]? = some (.cells #[.slice sv N cv, .int .i64 n] 30) := by rw [hW1]; exact get_last rfl
  have b0 := obj_cell hj1 (i := 0) rfl
  have b1 := obj_cell hj1 (i := 1) rfl
  have HW1 := Lib.hid hW1
  have HB1 := Lib.hid hB1
  clear hW1 hB1
  by_cases h50 : 50 < N
  · have q1 : (50 < (N : Int)) = True := eq_true (by omega)
    go_enter Try.func4, Try.ntmps4
    go_upto_region 1 with fail
    rw [← HW1.out]
    go_wp2_with fail
    refine (hAw _).mono ?_; rintro e w2 ⟨rfl, hb2⟩
    go_wp2_with fail
    go_ret
    exact ⟨rfl, HB1.out.trans (hb2.mono HB1.out.size)⟩
  have q1 : (50 < (N : Int)) = False := eq_false (by omega)
  have hN50 : N ≤ 50 := by omega
  go_enter Try.func4, Try.ntmps4
  go_upto_region 1 with fail
  rw [← HW1.out]
  go_wp2_with fail
  refine (feed_Next_nil _).mono ?_; rintro e w2 ⟨rfl, hb2⟩
  have hj2 := obj_below hj1 hb2 (by omega)
  have HB2 := Lib.hid (HB1.out.trans (hb2.mono HB1.out.size))
  have hsz2 : w.heap.size + 1 ≤ w2.heap.size := by have := hb2.size; omega
  obtain ⟨W3, hW3⟩ : ∃ W3, W3 = w2.alloc (.cells #[.slice none 0 0, .int .i64 0] 30) := ⟨_, rfl⟩
  have hB3 : Below w2.heap.size w2 W3 := by rw [hW3]; exact by (repeat' (first | (with_reducible exact Below.refl _ _) | (with_reducible assumption) | (with_reducible refine below_drewN ?_ _) | (with_reducible refine Below.alloc ?_ ?_ _) | (with_reducible refine Below.drew ?_) | (with_reducible refine Below.setCell ?_ ?_ _) | go_size))
  have hj3 := obj_below hj2 hB3 (by omega)
  have hx3 : W3.heap[w2.heap.size]? = some (.cells #[.slice none 0 0, .int .i64 0] 30) := by rw [hW3]; exact get_last rfl
  have HW3 := Lib.hid hW3
  have x0 := obj_cell hx3 (i := 0) rfl
  have x1 := obj_cell hx3 (i := 1) rfl
  have b0 := obj_cell hj3 (i := 0) rfl
  have b1 := obj_cell hj3 (i := 1) rfl
  have HB3 := Lib.hid (HB2.out.trans (hB3.mono HB2.out.size))
  have HJ3 := Lib.hid hj3
  clear hW3 hj1 hj2 hj3 hx3 hb2
  go_upto_region 5 with fail
  rw [← HW3.out]
  go_wp2_with fail
  refine (feed_Offer_nil _ _ _).mono ?_; rintro e w4 ⟨rfl, hb4⟩
  go_wp2_with fail
  refine (feed_Shut_nil _).mono ?_; rintro e u1 ⟨rfl, rfl⟩
  go_wp2_with fail
  refine (feed_Over_nil _).mono ?_; rintro e u2 ⟨rfl, rfl⟩
  go_wp2_with fail
  refine (feed_Len_nil _).mono ?_; rintro e w4 ⟨rfl, rfl⟩
  go_wp2_with fail
  refine (feed_New 2 _ (by unfold I64; omega)).mono ?_; rintro e w5 ⟨p, c, rfl, hp, hc, hF5, hb5⟩
  have hF5 : FeedAt w5 p c 2 #[] 0 := hF5
  have hb35 := hb4.trans (hb5.mono hb4.size)
  have hz35 := hb35.size
  have hz34 := hb4.size
  have hz3 := HB3.out.size
  have hw3 : w.heap.size < W3.heap.size := World.block_lt_of_cell? _ _ b0
  have hj5 := obj_below HJ3.out hb35 hw3
  have HB5 := Lib.hid (HB3.out.trans (hb35.mono HB3.out.size))
  have b0 := obj_cell hj5 (i := 0) rfl
  have b1 := obj_cell hj5 (i := 1) rfl
  have HE : Hid ((w5.alloc (.cells #[] 3)).ownsRow w5.heap.size 3 1 (.slice (some ⟨w5.heap.size, 0, none⟩) 0 0) 0 []) := Lib.hid (World.ownsRow_lit _ #[] 0 (Nat.le_refl _) (by unfold maxLen; omega) rfl)
  have hsr := src_ints hv
  rw [HN.out] at hsr
  have HS := Lib.hid (fun W (hW : Below w5.heap.size w5 W) => (hsr.below HB5.out).below hW)
  clear hsr
  have HJ5 := Lib.hid hj5
  have HF5 := Lib.hid hF5
  have HI := Lib.hid (row_ints hv)
  have hw5 : w.heap.size < w5.heap.size := by omega
  have cp := @cell_past
  clear hb4 hb5 hb35 x0 x1
  go_wp2_with (first | (at_builtin; go_loud (refine wpList_append_src rfl (.tmp 53) (.tmp 55) 28 rfl w5.heap.size 3 i (.int .i64 0) 1 8 Try.underlying28 hi hz hsize hby rfl (by omega) _ 0 [] rfl HE.out _ N (iV L) rfl (HS.out (w5.alloc (.cells #[] 3)) (by (repeat' (first | (with_reducible exact Below.refl _ _) | (with_reducible assumption) | (with_reducible refine below_drewN ?_ _) | (with_reducible refine Below.alloc ?_ ?_ _) | (with_reducible refine Below.drew ?_) | (with_reducible refine Below.setCell ?_ ?_ _) | go_size)))) (by rw [iV_len, HN.out]; omega) (iV_one L) (by unfold maxLen; omega) (by omega) (by simp) ?_; intro v6 w6 hO6 hG6; have hO6 := own_eq2 (m := N) (ys := iV L) hO6 (by omega) (by simp); have hb6 := grown3 (show Below w5.heap.size w5 _ by (repeat' (first | (with_reducible exact Below.refl _ _) | (with_reducible assumption) | (with_reducible refine below_drewN ?_ _) | (with_reducible refine Below.alloc ?_ ?_ _) | (with_reducible refine Below.drew ?_) | (with_reducible refine Below.setCell ?_ ?_ _) | go_size))) (by simp) HE.out hG6; obtain ⟨al, cl, rfl⟩ := owns_form hO6; have HO6 := Lib.hid hO6; have HB6 := Lib.hid hb6; have b1 := obj_cell (obj_below HJ5.out hb6 (by omega)) (i := 1) rfl; clear hO6 hG6 hb6)) | fail)
  have hF6 := HF5.out.keep HB6.out
  have hrow := row_of_owns (own_eq2 HO6.out HN.out.symm rfl) HI.out
  refine (feed_Offer_room p c 2 #[] _ L n w6 hF6 (by simp) hrow (by rw [HN.out]; omega)).mono ?_; rintro e w7 ⟨r, rfl, hO7, hF7, hG7⟩
  rw [HN.out] at hO7
  obtain ⟨ar, cr, rfl⟩ := owns_form hO7
  have hc5 : c < w5.heap.size := by
    obtain ⟨s0, r0, hch⟩ := hF5.chan
    by_cases hcl : c < w5.heap.size
    · exact hcl
    · rw [Array.getElem?_eq_none (Nat.le_of_not_lt hcl)] at hch; cases hch
  have hz6 := HB6.out.size
  have hz7 := hG7.size
  have HL7 := Lib.hid (owns_grown HO6.out hG7 (fun g hg => by have := (owns_lt HO6.out hg).1; intro e; injection e with e; omega))
  have HJ7 := Lib.hid ((hG7.block w.heap.size (by omega) (by intro e; injection e with e; omega)).trans (obj_below HJ5.out HB6.out hw5))
  have HB7 := Lib.hid (grown_low (HB5.out.trans (HB6.out.mono HB5.out.size)) hG7 (by omega) (by omega))
  have HGL := Lib.hid (fun g (hg : (Value.slice al N cl).ownBlock = some g) => owns_lt HO6.out hg)
  have HR7 := Lib.hid hO7
  have HF7 := Lib.hid hF7
  obtain ⟨BUF, hBUF⟩ : ∃ b, (#[] : Array Value).push (.agg #[.slice ar N cr, .int .i64 n]) = b := ⟨_, rfl⟩
  have HQ := Lib.hid (show 0 < BUF.size ∧ BUF.getD 0 undef = .agg #[.slice ar N cr, .int .i64 n] by rw [← hBUF]; exact ⟨by simp, rfl⟩)
  rw [hBUF] at HF7
  clear hBUF
  have hcw : w.heap.size < c := by omega
  clear hO7 hF7 hG7 hrow hF6 hF5 b0 b1
  go_wp2_with fail
  go_loopw [8] (fun jj wr => ∃ (k : Nat) (xs : List Value), k ≤ N ∧ jj = .int .i64 k ∧ Hid (wr.ownsRow w5.heap.size 3 1 (.slice al N cl) N xs) ∧ Hid (wr.ownsRow w6.heap.size 3 1 (.slice ar N cr) N (iV L)) ∧ Hid (FeedAt wr p c 2 BUF 0) ∧ Hid (wr.heap[w.heap.size]? = some (.cells #[.slice sv N cv, .int .i64 n] 30)) ∧ Hid (Below w.heap.size w wr)) (fun jj _ => N - (intOf jj).toNat)
  case atStart => exact ⟨0, _, by omega, rfl, HL7, HR7, HF7, HJ7, HB7⟩
  case round =>
    clear HL7 HR7 HF7 HJ7 HB7
    obtain ⟨k, xs, hk, rfl, HL, HR, HF, HJ, HB⟩ := hrel
    by_cases hkn : k < N
    · have qk : ((k : Int) < (N : Int)) = True := eq_true (by omega)
      obtain ⟨g, cap, f1, f2, f3, ⟨u, _, f5⟩, f6, f7⟩ := owns_put HL.out hkn (x := .int .i64 0)
      obtain rfl : al = some ⟨g, 0, none⟩ := by injection f1
      have hg6 := HGL.out g rfl
      have HL' := Lib.hid f7
      have HR' := Lib.hid (owns_set (g := g) (o := k) (x := .int .i64 0) HR.out (fun hb => by have := (owns_lt HR.out hb).1; omega))
      obtain ⟨s0, r0, hch⟩ := HF.out.chan
      have HF' : Hid (FeedAt (wr.setCell ⟨g, k, none⟩ (.int .i64 0)) p c 2 BUF 0) := Lib.hid ⟨obj_set HF.out.obj HL.out rfl (by decide), s0, r0, (get_set (by simp; omega)).trans hch⟩
      have HJ' := Lib.hid (obj_set (o := k) (x := .int .i64 0) HJ.out HL.out rfl (by decide))
      have HB' := Lib.hid (HB.out.setCell (p := ⟨g, k, none⟩) (show w.heap.size ≤ g by omega) (.int .i64 0))
      clear f1 f7 hch
      go_wp2_with fail
      go_roundw
      case rel => exact ⟨k + 1, _, by omega, by simp, HL', HR', HF', HJ', HB'⟩
      case measure => first | (simp [intOf]; done) | (simp [intOf]; omega)
    · obtain rfl : k = N := by omega
      have qk : ((k : Int) < (k : Int)) = False := eq_false (by omega)
      have hrowr := row_of_owns (own_eq2 HR.out HN.out.symm rfl) HI.out
      have hv8 := fun W (hW : Below w.heap.size w W) => hv.below intR_stable hW
      have HNx := feed_Next_some p c 2 BUF 0 _ L n wr HF.out HQ.out.1 HQ.out.2 hrowr (by rw [HN.out]; omega)
      clear hv
      go_wp2_with fail
      refine HNx.mono ?_; rintro e w8 ⟨ry, rfl, hO8, hF8, hG8⟩
      have hrow8 := row_of_owns hO8 HI.out
      have hz8 := hG8.size
      have hzr := HB.out.size
      have hwr : w.heap.size < wr.heap.size := World.block_lt_of_cell? _ _ (obj_cell HJ.out (i := 0) rfl)
      have hB8 := grown_low HB.out hG8 (by omega) hzr
      have hJ8 := (hG8.block w.heap.size hwr (by intro e; injection e with e; omega)).trans HJ.out
      rw [HN.out] at hO8
      obtain ⟨ay, cy, rfl⟩ := owns_form hO8
      obtain ⟨W9, hW9⟩ : ∃ W9, W9 = w8.alloc (.cells #[.slice ay k cy, .int .i64 n] 30) := ⟨_, rfl⟩
      have hB9 : Below w8.heap.size w8 W9 := by rw [hW9]; exact by (repeat' (first | (with_reducible exact Below.refl _ _) | (with_reducible assumption) | (with_reducible refine below_drewN ?_ _) | (with_reducible refine Below.alloc ?_ ?_ _) | (with_reducible refine Below.drew ?_) | (with_reducible refine Below.setCell ?_ ?_ _) | go_size))
      have hj9 : W9.heap[w8.heap.size]? = some (.cells #[.slice ay k cy, .int .i64 n] 30) := by rw [hW9]; exact get_last rfl
      have hb9 := obj_below hJ8 hB9 (by omega)
      have y0 := obj_cell hj9 (i := 0) rfl
      have y1 := obj_cell hj9 (i := 1) rfl
      have b0 := obj_cell hb9 (i := 0) rfl
      have b1 := obj_cell hb9 (i := 1) rfl
      have HB9 := Lib.hid (hB8.trans (hB9.mono (by omega)))
      have HIn := ref15_Ints _ _ L L W9 (hrow8.below intR_stable hB9) (hv8 W9 HB9.out)
      have HW9 := Lib.hid hW9
      clear hW9 hj9 hb9 hJ8 hO8 hF8 hG8 HNx hrowr hv8 hrow8 hB8
      go_upto_region 16 with fail
      rw [← HW9.out]
      go_wp2_with fail
      refine HIn.mono ?_; rintro e w10 ⟨rfl, m, rfl⟩
      have hbd : Below W9.heap.size W9 (W9.drewN m) := by first | exact Below_drewN _ _ _ | (repeat' (first | (with_reducible exact Below.refl _ _) | (with_reducible assumption) | (with_reducible refine below_drewN ?_ _) | (with_reducible refine Below.alloc ?_ ?_ _) | (with_reducible refine Below.drew ?_) | (with_reducible refine Below.setCell ?_ ?_ _) | go_size))
      have y1 := (hbd.cell (p := ⟨w8.heap.size, 1, none⟩) (World.block_lt_of_cell? _ _ y1)).trans y1
      have b1 := (hbd.cell (p := ⟨w.heap.size, 1, none⟩) (World.block_lt_of_cell? _ _ b1)).trans b1
      have HBd := Lib.hid (HB9.out.trans (hbd.mono HB9.out.size))
      clear hbd
      go_wp2_with fail
      refine (hAw _).mono ?_; rintro e w11 ⟨rfl, hb11⟩
      go_wp2_with fail
      go_ret
      exact ⟨rfl, HBd.out.trans (hb11.mono HBd.out.size)⟩
end Go.Proofs.Ytpbfgoegkpjpmaa
