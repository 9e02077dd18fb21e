/- Sets: of all places. -/
import Derived.Test.YtochjlllfbmhpaaDoorBitPart
namespace Go.Proofs.YtochjlllfbmhpaaDoor
open Go.RowKit
set_option linter.unusedSimpArgs false
set_option linter.unusedVariables false
def ones (m k : Nat) : List Nat := partW (fun _ _ => 18446744073709551615) (List.replicate m 0) [] k
theorem ones_end (m : Nat) : ones m m = List.replicate m 18446744073709551615 := by
  unfold ones
  rw [partW_end _ _ _ _ (fun i h1 h2 => by simp at h2; omega)]
  refine nat_ext (by simp [mapW]) fun i hi => ?_
  rw [mapW_get]
  simp [mapW] at hi
  simp [hi, List.getD]
set_option maxHeartbeats 2000000 in
theorem bits_All (r : Int) (w : World) : Calls Tryd.prog 12 #[.int .i64 r] w fun e w' => ∃ v, e = .returned v ∧ SetR w' v (List.replicate (clampR r) true) ∧ Below w.heap.size w w' := by
  have hN := fun W => bits_New r W
  have hle := clampR_le r
  obtain ⟨n, hn⟩ : ∃ n, clampR r = n := ⟨_, rfl⟩
  rw [hn] at hN hle ⊢
  clear hn
  obtain ⟨m, hm⟩ : ∃ m, (n + 63) / 64 = m := ⟨_, rfl⟩
  have hm64 : m ≤ 1024 := by omega
  have HM := Lib.hid hm
  rw [hm] at hN
  clear hm
  go_enter Tryd.func12, Tryd.ntmps12
  go_wp2_with fail
  refine (hN _).mono ?_; rintro e W1 ⟨g, rfl, hF⟩
  have hgl := heap_lt hF.obj
  have hsz := hF.below.size
  rw [World.size_alloc] at hsz
  have hgb := hF.base
  rw [World.size_alloc] at hgb
  have hb1 : Below (w.heap.size + 1) (w.alloc (.cells #[.int .i64 0, .slice none 0 0] 26)) W1 := by
    have := hF.below; rw [World.size_alloc] at this; exact this
  have o1 : W1.heap[w.heap.size]? = some (.cells #[.int .i64 0, .slice none 0 0] 26) := obj_below (get_last (by simp)) hb1 (by omega)
  obtain ⟨W2, hW2⟩ : ∃ W2, W2 = W1.alloc (.cells #[.int .i64 n, .slice (some ⟨g, 0, none⟩) m m] 26) := ⟨_, rfl⟩
  have q2 : W2.heap[W1.heap.size]? = some (.cells #[.int .i64 n, .slice (some ⟨g, 0, none⟩) m m] 26) := by rw [hW2]; exact get_last rfl
  have q1 : W2.heap[w.heap.size]? = some (.cells #[.int .i64 0, .slice none 0 0] 26) := by rw [hW2, get_past (heap_lt o1)]; exact o1
  have qg : W2.heap[g]? = some (.cells (uV (List.replicate m 0)) 45) := by rw [hW2, get_past hgl]; exact hF.obj
  have HB2 := Lib.hid (show Below w.heap.size w W2 from by rw [hW2]; exact (Below.trans (by (repeat' (first | (with_reducible exact Below.refl _ _) | (with_reducible assumption) | (with_reducible refine below_drewN ?_ _) | (with_reducible refine Below.alloc ?_ ?_ _) | (with_reducible refine Below.drew ?_) | (with_reducible refine Below.setCell ?_ ?_ _) | go_size))) (hb1.mono (by omega))).alloc (by omega) _)
  have HW2 := Lib.hid hW2
  have HQ1 := Lib.hid q1
  have HQ2 := Lib.hid q2
  have HQG := Lib.hid qg
  have HG := Lib.hid hgb
  have HGL := Lib.hid (show g < W1.heap.size from hgl)
  clear hW2 q1 q2 qg hF hb1 o1 hgl hsz hgb
  go_wp2_with fail
  rw [← HW2.out]
  go_loopw [10] (fun jj wr => ∃ k : Nat, k ≤ m ∧ jj = .int .i64 k ∧ Hid (wr.heap[g]? = some (.cells (uV (ones m k)) 45)) ∧ Hid (W2.grownBy wr (some g))) (fun jj _ => m - (intOf jj).toNat)
  case atStart => exact ⟨0, by omega, rfl, Lib.hid (by unfold ones; rw [partW_zero]; exact HQG.out), Lib.hid (World.grownBy.refl _ _)⟩
  case round =>
    obtain ⟨k, hk, rfl, hobj, hgr⟩ := hrel
    have j2 := grown_other hgr.out HQ2.out (by have := HGL.out; omega)
    have j1 := grown_other hgr.out HQ1.out (by have := HG.out; omega)
    have n1 : ¬ g = W1.heap.size := by have := HGL.out; omega
    have n2 : ¬ g = w.heap.size := by have := HG.out; omega
    have c20 : wr.cell? ⟨W1.heap.size, 0, none⟩ = some (.int .i64 n) := obj_cell j2 (i := 0) rfl
    have c21 : wr.cell? ⟨W1.heap.size, 1, none⟩ = some (.slice (some ⟨g, 0, none⟩) m m) := obj_cell j2 (i := 1) rfl
    by_cases hlt : k < m
    · have qk : ((k : Int) < (m : Int)) = True := eq_true (by omega)
      have qk' : (k < m) = True := eq_true hlt
      have fg : wr.frozen? ⟨g, k, none⟩ = false := obj_frozen hobj.out _
      have hl : (ones m k).length = m := by unfold ones; rw [partW_len]; simp
      have cg : wr.cell? ⟨g, k, none⟩ = some (.int .u64 ((ones m k).getD k 0 : Nat)) := obj_cell hobj.out (uV_get (by omega))
      have HR := Lib.hid (show (wr.setCell ⟨g, k, none⟩ (.int .u64 18446744073709551615)).heap[g]? = some (.cells (uV (ones m (k + 1))) 45) from by
        rw [obj_self hobj.out, show (Value.int .u64 18446744073709551615) = .int .u64 ((18446744073709551615 : Nat) : Int) from rfl, uV_set]
        unfold ones
        rw [← partW_set _ _ _ _ (by simpa using hlt)])
      have HG2 := Lib.hid (grown_set (q := k) (v := .int .u64 18446744073709551615) hgr.out)
      clear j1 j2 hl
      go_wp2_with fail
      go_roundw
      case rel => exact ⟨k + 1, by omega, by simp, HR, HG2⟩
      case measure => first | (simp [intOf]; done) | (simp [intOf]; omega)
    · obtain rfl : k = m := by omega
      have qk : ((k : Int) < (k : Int)) = False := eq_false (by omega)
      have qk' : (k < k) = False := eq_false (by omega)
      have HJ1 := Lib.hid j1
      have HJ2 := Lib.hid j2
      clear j1 j2
      go_wp2_with fail
      refine (bits_trim n g k (ones k k) wr hobj.out (by unfold ones; rw [partW_len]; simp) HM.out.symm hle (fun i => by
        rw [ones_end]; simp [List.getD, List.getElem?_replicate]; split <;> simp)).mono ?_
      rintro e W4 ⟨hg4, hr4, rfl⟩
      have e2 := grown_other hr4 HJ2.out (by have := HGL.out; omega)
      have e1 := grown_other hr4 HJ1.out (by have := HG.out; omega)
      have c20 : W4.cell? ⟨W1.heap.size, 0, none⟩ = some (.int .i64 n) := obj_cell e2 (i := 0) rfl
      have c21 : W4.cell? ⟨W1.heap.size, 1, none⟩ = some (.slice (some ⟨g, 0, none⟩) k k) := obj_cell e2 (i := 1) rfl
      have d0 : W4.cell? ⟨w.heap.size, 0, none⟩ = some (.int .i64 0) := obj_cell e1 (i := 0) rfl
      have d1 : W4.cell? ⟨w.heap.size, 1, none⟩ = some (.slice none 0 0) := obj_cell e1 (i := 1) rfl
      have f0 := obj_frozen e1 0
      have f1 := obj_frozen e1 1
      have hB4 : Below w.heap.size w W4 := HB2.out.trans ((grown_below hgr.out (by have := HG.out; omega) HB2.out.size).trans (grown_below hr4 (by have := HG.out; omega) (Nat.le_trans HB2.out.size hgr.out.size)))
      have HE := Lib.hid (fin_box (w := w) (z0 := .int .i64 n) (z1 := .slice (some ⟨g, 0, none⟩) k k) hg4 e1 hB4 (by have := HG.out; omega) n2)
      clear e1 e2 hB4 hg4 hr4
      go_wp2_with fail
      obtain ⟨W5, hW5, y0, y1, hS, hb⟩ := HE.out
      rw [← hW5]
      refine bodyPost_ret (by simp [results, Tryd.results12, go_sem, y0, y1]; try rfl) rfl ?_
      rw [ones_end] at hS
      have hx := wds_all n
      rw [HM.out] at hx
      have hr := FreshW.set ⟨by have := HG.out; omega, hS, hb⟩ hx (by simpa using hle) (m := k) (by rw [trimW_len]; simp)
      rw [List.length_replicate] at hr
      exact ⟨_, rfl, hr, hb⟩
end Go.Proofs.YtochjlllfbmhpaaDoor
