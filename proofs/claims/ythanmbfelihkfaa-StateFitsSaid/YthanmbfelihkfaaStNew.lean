/- Layer 23: the first state of declarations, by the answer. -/
import Derived.Test.YthanmbfelihkfaaStNewA
import Derived.LoopTactic
import Derived.Deep.Cut
import Derived.Deep.CutRange
import Derived.RegionTactic
namespace Go.Proofs.Ythanmbfelihkfaa
open Go.RowKit
set_option linter.unusedSimpArgs false
set_option linter.unusedVariables false
set_option maxHeartbeats 8000000 in
theorem state_New (vv bv : Value) (V : List Vr) (nb : Nat) (w : World) (hvv : RowR 5 varR w vv V) (hbv : ∃ a c, bv = .slice a nb c) (hV : V.length ≤ 70) (hnb : nb ≤ 40) :
    Calls Try.prog 9 #[vv, bv] w fun e w' => ∃ (v b : Value) (U : List Value), e = .returned (.agg #[v, b, .int .i64 0, .int .i64 0]) ∧ OwnS w.heap.size w' v b (newS V nb) U ∧ Below w.heap.size w w' := by
  obtain ⟨i, hi, hz, hsize, hby⟩ : ∃ i, Try.prog.info? 3 = some i ∧ i.zero = some (.int .i64 0) ∧ i.size = 1 ∧ i.bytes = 8 := ⟨(Try.prog.info? 3).get!, by kernel_rfl, by kernel_rfl, by kernel_rfl, by kernel_rfl⟩
  obtain ⟨j, hj, hjz, hjsize, hjby⟩ : ∃ i, Try.prog.info? 45 = some i ∧ i.zero = some (.slice none 0 0) ∧ i.size = 1 ∧ i.bytes = 24 := ⟨(Try.prog.info? 45).get!, by kernel_rfl, by kernel_rfl, by kernel_rfl, by kernel_rfl⟩
  obtain ⟨ii, hii, hiz, hisize, hiby⟩ : ∃ i, Try.prog.info? 62 = some i ∧ i.zero = some (.agg #[.int .i64 0, .int .i64 0, .int .i64 0, .int .i64 0, .int .i64 0, .int .i64 0, .int .i64 0, .int .i64 0, .int .i64 0, .int .i64 0]) ∧ i.size = 10 ∧ i.bytes = 80 := ⟨(Try.prog.info? 62).get!, by kernel_rfl, by kernel_rfl, by kernel_rfl, by kernel_rfl⟩
  obtain ⟨sb, cb, rfl⟩ := hbv
  obtain ⟨sv, cv, rfl⟩ := row_get hvv
  obtain ⟨N, hN⟩ : ∃ N, V.length = N := ⟨_, rfl⟩
  have HN := Lib.hid hN
  rw [hN] at hvv hV ⊢
  clear hN
  have hm1 := fun W => run_make W 28 45 j _ Try.underlying28 hj hjz .i64 .i64 (N : Int) (N : Int) (by omega) (by omega) (by rw [hjby]; omega) (by omega)
  have hm2 := fun W => run_make W 29 62 ii _ Try.underlying29 hii hiz .i64 .i64 (nb : Int) (nb : Int) (by omega) (by omega) (by rw [hiby]; omega) (by omega)
  have hm3 := fun (m : Nat) (hm : m ≤ 16) W => run_make W 45 3 i _ Try.underlying45 hi hz .i64 .i64 (m : Int) (m : Int) (by omega) (by omega) (by rw [hby]; omega) (by omega)
  rw [hjsize, Nat.mul_one, show ((N : Int)).toNat = N by omega] at hm1
  rw [hisize, show ((nb : Int)).toNat = nb by omega] at hm2
  rw [hsize] at hm3
  simp only [Nat.mul_one, Int.toNat_natCast] at hm3
  have HR := Lib.hid hm3
  clear hm3 hi hz hsize hby hj hjz hjsize hjby hii hiz hisize hiby
  have hZ1 := Lib.hid (made_nils N)
  have hZ2 := Lib.hid (made_insts nb)
  generalize madeCells (Value.slice none 0 0).cells N = Z1 at *
  generalize madeCells (Value.agg #[.int .i64 0, .int .i64 0, .int .i64 0, .int .i64 0, .int .i64 0, .int .i64 0, .int .i64 0, .int .i64 0, .int .i64 0, .int .i64 0]).cells (nb * 10) = Z2 at *
  have HS := Lib.hid (fun (W : World) (g1 g2 : Nat) => new_start (w := W) (B := w.heap.size + 1) (g1 := g1) (g2 := g2) HN.out hZ1.out hZ2.out hV hnb)
  have cp := @cell_past
  go_enter Try.func9, Try.ntmps9
  go_upto_region 1 with fail
  go_cut [5] from 9 (fun s5 wx => ∃ (p g1 g2 : Nat) (U : List Value), s5 = .pointer (some ⟨p, 0, none⟩) ∧ Hid (wx.heap[p]? = some (.cells #[.slice (some ⟨g1, 0, none⟩) N N, .slice (some ⟨g2, 0, none⟩) nb nb, .int .i64 0, .int .i64 0] 31) ∧ wx.heap[w.heap.size]? = some (.cells #[.slice none 0 0, .slice none 0 0, .int .i64 0, .int .i64 0] 31)) ∧ Hid (OwnS (w.heap.size + 1) wx (.slice (some ⟨g1, 0, none⟩) N N) (.slice (some ⟨g2, 0, none⟩) nb nb) (newAt V nb 0) U) ∧ Hid (Below w.heap.size w wx))
  case first =>
    go_region
    all_goals
      go_wp2_with fail
      go_meet
      case rel =>
        first
          | exact ⟨w.heap.size + 1, w.heap.size + 1 + 1, w.heap.size + 1 + 1 + 1, _, rfl, Lib.hid ⟨(by rw [drew_heap]; first | exact get_last (by simp) | (rw [get_past (by simp; try omega)]; first | exact get_last (by simp) | (rw [get_past (by simp; try omega)]; first | exact get_last (by simp) | (rw [get_past (by simp; try omega)]; exact get_last (by simp))))), (by rw [drew_heap]; first | exact get_last (by simp) | (rw [get_past (by simp; try omega)]; first | exact get_last (by simp) | (rw [get_past (by simp; try omega)]; first | exact get_last (by simp) | (rw [get_past (by simp; try omega)]; exact get_last (by simp)))))⟩, Lib.hid (HS.out _ _ _ (by rw [drew_heap]; first | exact get_last (by simp) | (rw [get_past (by simp; try omega)]; first | exact get_last (by simp) | (rw [get_past (by simp; try omega)]; first | exact get_last (by simp) | (rw [get_past (by simp; try omega)]; exact get_last (by simp))))) (by rw [drew_heap]; first | exact get_last (by simp) | (rw [get_past (by simp; try omega)]; first | exact get_last (by simp) | (rw [get_past (by simp; try omega)]; first | exact get_last (by simp) | (rw [get_past (by simp; try omega)]; exact get_last (by simp))))) (by omega) (by omega)), Lib.hid (by (repeat' (first | (with_reducible exact Below.refl _ _) | (with_reducible assumption) | (with_reducible refine below_drewN ?_ _) | (with_reducible refine Below.alloc ?_ ?_ _) | (with_reducible refine Below.drew ?_) | (with_reducible refine Below.setCell ?_ ?_ _) | go_size)))⟩
          | exact ⟨w.heap.size + 1, w.heap.size + 1 + 1 + 1, w.heap.size + 1 + 1, _, rfl, Lib.hid ⟨(by rw [drew_heap]; first | exact get_last (by simp) | (rw [get_past (by simp; try omega)]; first | exact get_last (by simp) | (rw [get_past (by simp; try omega)]; first | exact get_last (by simp) | (rw [get_past (by simp; try omega)]; exact get_last (by simp))))), (by rw [drew_heap]; first | exact get_last (by simp) | (rw [get_past (by simp; try omega)]; first | exact get_last (by simp) | (rw [get_past (by simp; try omega)]; first | exact get_last (by simp) | (rw [get_past (by simp; try omega)]; exact get_last (by simp)))))⟩, Lib.hid (HS.out _ _ _ (by rw [drew_heap]; first | exact get_last (by simp) | (rw [get_past (by simp; try omega)]; first | exact get_last (by simp) | (rw [get_past (by simp; try omega)]; first | exact get_last (by simp) | (rw [get_past (by simp; try omega)]; exact get_last (by simp))))) (by rw [drew_heap]; first | exact get_last (by simp) | (rw [get_past (by simp; try omega)]; first | exact get_last (by simp) | (rw [get_past (by simp; try omega)]; first | exact get_last (by simp) | (rw [get_past (by simp; try omega)]; exact get_last (by simp))))) (by omega) (by omega)), Lib.hid (by (repeat' (first | (with_reducible exact Below.refl _ _) | (with_reducible assumption) | (with_reducible refine below_drewN ?_ _) | (with_reducible refine Below.alloc ?_ ?_ _) | (with_reducible refine Below.drew ?_) | (with_reducible refine Below.setCell ?_ ?_ _) | go_size)))⟩
          | exact ⟨w.heap.size + 1 + 1, w.heap.size + 1, w.heap.size + 1 + 1 + 1, _, rfl, Lib.hid ⟨(by rw [drew_heap]; first | exact get_last (by simp) | (rw [get_past (by simp; try omega)]; first | exact get_last (by simp) | (rw [get_past (by simp; try omega)]; first | exact get_last (by simp) | (rw [get_past (by simp; try omega)]; exact get_last (by simp))))), (by rw [drew_heap]; first | exact get_last (by simp) | (rw [get_past (by simp; try omega)]; first | exact get_last (by simp) | (rw [get_past (by simp; try omega)]; first | exact get_last (by simp) | (rw [get_past (by simp; try omega)]; exact get_last (by simp)))))⟩, Lib.hid (HS.out _ _ _ (by rw [drew_heap]; first | exact get_last (by simp) | (rw [get_past (by simp; try omega)]; first | exact get_last (by simp) | (rw [get_past (by simp; try omega)]; first | exact get_last (by simp) | (rw [get_past (by simp; try omega)]; exact get_last (by simp))))) (by rw [drew_heap]; first | exact get_last (by simp) | (rw [get_past (by simp; try omega)]; first | exact get_last (by simp) | (rw [get_past (by simp; try omega)]; first | exact get_last (by simp) | (rw [get_past (by simp; try omega)]; exact get_last (by simp))))) (by omega) (by omega)), Lib.hid (by (repeat' (first | (with_reducible exact Below.refl _ _) | (with_reducible assumption) | (with_reducible refine below_drewN ?_ _) | (with_reducible refine Below.alloc ?_ ?_ _) | (with_reducible refine Below.drew ?_) | (with_reducible refine Below.setCell ?_ ?_ _) | go_size)))⟩
          | exact ⟨w.heap.size + 1 + 1, w.heap.size + 1 + 1 + 1, w.heap.size + 1, _, rfl, Lib.hid ⟨(by rw [drew_heap]; first | exact get_last (by simp) | (rw [get_past (by simp; try omega)]; first | exact get_last (by simp) | (rw [get_past (by simp; try omega)]; first | exact get_last (by simp) | (rw [get_past (by simp; try omega)]; exact get_last (by simp))))), (by rw [drew_heap]; first | exact get_last (by simp) | (rw [get_past (by simp; try omega)]; first | exact get_last (by simp) | (rw [get_past (by simp; try omega)]; first | exact get_last (by simp) | (rw [get_past (by simp; try omega)]; exact get_last (by simp)))))⟩, Lib.hid (HS.out _ _ _ (by rw [drew_heap]; first | exact get_last (by simp) | (rw [get_past (by simp; try omega)]; first | exact get_last (by simp) | (rw [get_past (by simp; try omega)]; first | exact get_last (by simp) | (rw [get_past (by simp; try omega)]; exact get_last (by simp))))) (by rw [drew_heap]; first | exact get_last (by simp) | (rw [get_past (by simp; try omega)]; first | exact get_last (by simp) | (rw [get_past (by simp; try omega)]; first | exact get_last (by simp) | (rw [get_past (by simp; try omega)]; exact get_last (by simp))))) (by omega) (by omega)), Lib.hid (by (repeat' (first | (with_reducible exact Below.refl _ _) | (with_reducible assumption) | (with_reducible refine below_drewN ?_ _) | (with_reducible refine Below.alloc ?_ ?_ _) | (with_reducible refine Below.drew ?_) | (with_reducible refine Below.setCell ?_ ?_ _) | go_size)))⟩
          | exact ⟨w.heap.size + 1 + 1 + 1, w.heap.size + 1, w.heap.size + 1 + 1, _, rfl, Lib.hid ⟨(by rw [drew_heap]; first | exact get_last (by simp) | (rw [get_past (by simp; try omega)]; first | exact get_last (by simp) | (rw [get_past (by simp; try omega)]; first | exact get_last (by simp) | (rw [get_past (by simp; try omega)]; exact get_last (by simp))))), (by rw [drew_heap]; first | exact get_last (by simp) | (rw [get_past (by simp; try omega)]; first | exact get_last (by simp) | (rw [get_past (by simp; try omega)]; first | exact get_last (by simp) | (rw [get_past (by simp; try omega)]; exact get_last (by simp)))))⟩, Lib.hid (HS.out _ _ _ (by rw [drew_heap]; first | exact get_last (by simp) | (rw [get_past (by simp; try omega)]; first | exact get_last (by simp) | (rw [get_past (by simp; try omega)]; first | exact get_last (by simp) | (rw [get_past (by simp; try omega)]; exact get_last (by simp))))) (by rw [drew_heap]; first | exact get_last (by simp) | (rw [get_past (by simp; try omega)]; first | exact get_last (by simp) | (rw [get_past (by simp; try omega)]; first | exact get_last (by simp) | (rw [get_past (by simp; try omega)]; exact get_last (by simp))))) (by omega) (by omega)), Lib.hid (by (repeat' (first | (with_reducible exact Below.refl _ _) | (with_reducible assumption) | (with_reducible refine below_drewN ?_ _) | (with_reducible refine Below.alloc ?_ ?_ _) | (with_reducible refine Below.drew ?_) | (with_reducible refine Below.setCell ?_ ?_ _) | go_size)))⟩
          | exact ⟨w.heap.size + 1 + 1 + 1, w.heap.size + 1 + 1, w.heap.size + 1, _, rfl, Lib.hid ⟨(by rw [drew_heap]; first | exact get_last (by simp) | (rw [get_past (by simp; try omega)]; first | exact get_last (by simp) | (rw [get_past (by simp; try omega)]; first | exact get_last (by simp) | (rw [get_past (by simp; try omega)]; exact get_last (by simp))))), (by rw [drew_heap]; first | exact get_last (by simp) | (rw [get_past (by simp; try omega)]; first | exact get_last (by simp) | (rw [get_past (by simp; try omega)]; first | exact get_last (by simp) | (rw [get_past (by simp; try omega)]; exact get_last (by simp)))))⟩, Lib.hid (HS.out _ _ _ (by rw [drew_heap]; first | exact get_last (by simp) | (rw [get_past (by simp; try omega)]; first | exact get_last (by simp) | (rw [get_past (by simp; try omega)]; first | exact get_last (by simp) | (rw [get_past (by simp; try omega)]; exact get_last (by simp))))) (by rw [drew_heap]; first | exact get_last (by simp) | (rw [get_past (by simp; try omega)]; first | exact get_last (by simp) | (rw [get_past (by simp; try omega)]; first | exact get_last (by simp) | (rw [get_past (by simp; try omega)]; exact get_last (by simp))))) (by omega) (by omega)), Lib.hid (by (repeat' (first | (with_reducible exact Below.refl _ _) | (with_reducible assumption) | (with_reducible refine below_drewN ?_ _) | (with_reducible refine Below.alloc ?_ ?_ _) | (with_reducible refine Below.drew ?_) | (with_reducible refine Below.setCell ?_ ?_ _) | go_size)))⟩
  case rest =>
    obtain ⟨p, g1, g2, U, rfl, hobj, hown, hb⟩ := hcut
    clear hm1 hm2 hZ1 hZ2 HS
    go_wp2_with fail
    go_loopw [18] (fun jj wr => ∃ (k : Nat) (U : List Value), k ≤ N ∧ jj = .int .i64 k ∧ Hid (wr.heap[p]? = some (.cells #[.slice (some ⟨g1, 0, none⟩) N N, .slice (some ⟨g2, 0, none⟩) nb nb, .int .i64 0, .int .i64 0] 31) ∧ wr.heap[w.heap.size]? = some (.cells #[.slice none 0 0, .slice none 0 0, .int .i64 0, .int .i64 0] 31)) ∧ Hid (OwnS (w.heap.size + 1) wr (.slice (some ⟨g1, 0, none⟩) N N) (.slice (some ⟨g2, 0, none⟩) nb nb) (newAt V nb k) U) ∧ Hid (Below w.heap.size w wr)) (fun jj _ => N - (intOf jj).toNat)
    case atStart => exact ⟨0, U, by omega, rfl, hobj, hown, hb⟩
    case round =>
      clear hobj hown hb
      obtain ⟨k, U, hk, rfl, hobj, hown, hb⟩ := hrel
      by_cases hlt : k < N
      · have qk : ((k : Int) < (N : Int)) = True := eq_true (by omega)
        obtain ⟨x, hx⟩ := get_some (L := V) (n := k) (by have := HN.out; omega)
        obtain ⟨bb, off, rfl, hbw, hc⟩ := var_at hvv (k := k) (lt_of_get hx)
        obtain ⟨c0, c1, c2, c3, c4, cc⟩ := hc k x hx
        have c0 := (hb.out.cell (p := ⟨bb, off + k * 5, none⟩) hbw).trans c0
        have c1 := (hb.out.cell (p := ⟨bb, off + k * 5 + 1, none⟩) hbw).trans c1
        have c2 := (hb.out.cell (p := ⟨bb, off + k * 5 + 2, none⟩) hbw).trans c2
        have c3 := (hb.out.cell (p := ⟨bb, off + k * 5 + 3, none⟩) hbw).trans c3
        have c4 := (hb.out.cell (p := ⟨bb, off + k * 5 + 4, none⟩) hbw).trans c4
        have hcp := obj_cell hobj.out.1 (i := 0) rfl
        have hpl : p < wr.heap.size := World.block_lt_of_cell? _ _ hcp
        have zv : bb < wr.heap.size := World.block_lt_of_cell? _ _ c1
        have hI := Lib.hid cc.2.2.2.2
        obtain ⟨m, hm⟩ : ∃ m, rowN x = m := ⟨_, rfl⟩
        have HM := Lib.hid hm
        have hm16 : m ≤ 16 := by unfold rowN at hm; omega
        have hkl := Lib.hid (show k < (newAt V nb k).vars.length by rw [newAt_len V nb k (by have := HN.out; omega)]; have := HN.out; omega)
        have hput := (hown.out.below (show Below wr.heap.size wr (wr.alloc (.cells #[.string ⟨x.name.toArray⟩, .int .i64 x.t, .int .i64 x.n, .int .i64 x.area, .int .i64 x.init] 53)) by (repeat' (first | (with_reducible exact Below.refl _ _) | (with_reducible assumption) | (with_reducible refine below_drewN ?_ _) | (with_reducible refine Below.alloc ?_ ?_ _) | (with_reducible refine Below.drew ?_) | (with_reducible refine Below.setCell ?_ ?_ _) | go_size)))).put hkl.out (made_ints m) (fun z hz => by obtain rfl := (List.mem_replicate.1 hz).2; unfold I64; omega) (by have := hb.out.size; simp; omega) (by rw [List.length_replicate]; omega)
        obtain ⟨gq, capq, f1, f2, f3, ⟨uq, f5⟩, f6, f7⟩ := hput
        obtain rfl : g1 = gq := by injection f1 with e1; injection e1 with e1; injection e1
        have hgl : g1 < wr.heap.size := (hown.out.rowAt (k := k) (l := (newAt V nb k).vars[k]'hkl.out) (by simp [hkl.out])).1
        have hgl1 : g1 < wr.heap.size + 1 := by omega
        have hpl1 : p < wr.heap.size + 1 := by omega
        have hgl2 : g1 < wr.heap.size + 1 + 1 := by omega
        have f5 := (cell_past (o := .cells #[.string ⟨x.name.toArray⟩, .int .i64 x.t, .int .i64 x.n, .int .i64 x.area, .int .i64 x.init] 53) hgl (i := k)).symm.trans f5
        have f6 := (frozen_past (o := .cells #[.string ⟨x.name.toArray⟩, .int .i64 x.t, .int .i64 x.n, .int .i64 x.area, .int .i64 x.init] 53) hgl (i := k)).symm.trans f6
        have HK := Lib.hid (show fillR (newAt V nb k) k m m x.init = newAt V nb (k + 1) by rw [fillR_full, ← hm]; exact newAt_put (nb := nb) hx)
        rw [List.length_replicate] at f7
        have hset := fun (y : Value) => obj_set (x := y) (o := k) hobj.out.1 hown.out.own rfl (by decide)
        have hset0 := fun (y : Value) => obj_set (x := y) (o := k) hobj.out.2 hown.out.own rfl (by decide)
        have gl0 : w.heap.size < wr.heap.size := (World.block_lt_of_cell? _ _ (obj_cell hobj.out.2 (i := 0) rfl))
        have HP1 : Hid (((((wr.setCell ⟨g1, k, none⟩ (.slice (some ⟨wr.heap.size + 1, 0, none⟩) m m)).alloc (.cells #[.string ⟨x.name.toArray⟩, .int .i64 x.t, .int .i64 x.n, .int .i64 x.area, .int .i64 x.init] 53)).alloc (.cells (madeCells #[Value.int .i64 0] m) 3)).drew).heap[p]? = some (.cells #[.slice (some ⟨g1, 0, none⟩) N N, .slice (some ⟨g2, 0, none⟩) nb nb, .int .i64 0, .int .i64 0] 31) ∧ ((((wr.setCell ⟨g1, k, none⟩ (.slice (some ⟨wr.heap.size + 1, 0, none⟩) m m)).alloc (.cells #[.string ⟨x.name.toArray⟩, .int .i64 x.t, .int .i64 x.n, .int .i64 x.area, .int .i64 x.init] 53)).alloc (.cells (madeCells #[Value.int .i64 0] m) 3)).drew).heap[w.heap.size]? = some (.cells #[.slice none 0 0, .slice none 0 0, .int .i64 0, .int .i64 0] 31)) := by
          refine Lib.hid ⟨?_, ?_⟩
          · rw [drew_heap, get_past (by simp [set_size]; try omega), get_past (by simp [set_size]; try omega)]; exact hset _
          · rw [drew_heap, get_past (by simp [set_size]; try omega), get_past (by simp [set_size]; try omega)]; exact hset0 _
        have HP3 : Hid (((((wr.setCell ⟨g1, k, none⟩ (.slice (some ⟨wr.heap.size + 1, 0, none⟩) m m)).alloc (.cells #[.string ⟨x.name.toArray⟩, .int .i64 x.t, .int .i64 x.n, .int .i64 x.area, .int .i64 x.init] 53)).alloc (.cells (madeCells #[Value.int .i64 0] m) 3)).drew).heap[wr.heap.size]? = some (.cells #[.string ⟨x.name.toArray⟩, .int .i64 x.t, .int .i64 x.n, .int .i64 x.area, .int .i64 x.init] 53)) := by
          refine Lib.hid ?_
          rw [drew_heap, get_past (by simp [set_size])]; exact get_last (by simp [set_size])
        have HP4 : Hid (OwnS (w.heap.size + 1) ((((wr.setCell ⟨g1, k, none⟩ (.slice (some ⟨wr.heap.size + 1, 0, none⟩) m m)).alloc (.cells #[.string ⟨x.name.toArray⟩, .int .i64 x.t, .int .i64 x.n, .int .i64 x.area, .int .i64 x.init] 53)).alloc (.cells (madeCells #[Value.int .i64 0] m) 3)).drew) (.slice (some ⟨g1, 0, none⟩) N N) (.slice (some ⟨g2, 0, none⟩) nb nb) (fillR (newAt V nb k) k m 0 x.init) (U.set k (.slice (some ⟨wr.heap.size + 1, 0, none⟩) m m))) := by
          refine Lib.hid ?_
          rw [fillR_zero]
          refine OwnS.congr (w := (((wr.setCell ⟨g1, k, none⟩ (.slice (some ⟨wr.heap.size + 1, 0, none⟩) m m)).alloc (.cells #[.string ⟨x.name.toArray⟩, .int .i64 x.t, .int .i64 x.n, .int .i64 x.area, .int .i64 x.init] 53)).alloc (.cells (madeCells #[Value.int .i64 0] m) 3))) ?_ (fun g _ => rfl)
          have h := f7
          rw [show (Value.int .i64 0).cells = #[Value.int .i64 0] from (by first | rfl | simp [Value.cells]), World.setCell_alloc_past _ _ _ _ (by simp; omega), World.setCell_alloc_past _ _ _ _ hgl, show (wr.alloc (.cells #[.string ⟨x.name.toArray⟩, .int .i64 x.t, .int .i64 x.n, .int .i64 x.area, .int .i64 x.init] 53)).heap.size = wr.heap.size + 1 from (by simp)] at h
          exact h
        clear hset hset0 f7 hm
        have HP5 := Lib.hid (show Below w.heap.size w ((((wr.setCell ⟨g1, k, none⟩ (.slice (some ⟨wr.heap.size + 1, 0, none⟩) m m)).alloc (.cells #[.string ⟨x.name.toArray⟩, .int .i64 x.t, .int .i64 x.n, .int .i64 x.area, .int .i64 x.init] 53)).alloc (.cells (madeCells #[Value.int .i64 0] m) 3)).drew) from hb.out.trans (show Below w.heap.size wr ((((wr.setCell ⟨g1, k, none⟩ (.slice (some ⟨wr.heap.size + 1, 0, none⟩) m m)).alloc (.cells #[.string ⟨x.name.toArray⟩, .int .i64 x.t, .int .i64 x.n, .int .i64 x.area, .int .i64 x.init] 53)).alloc (.cells (madeCells #[Value.int .i64 0] m) 3)).drew) from by (repeat' (first | (with_reducible exact Below.refl _ _) | (with_reducible assumption) | (with_reducible refine more_below ?_ ?_ _ _) | (with_reducible refine below_drewN ?_ _) | (with_reducible refine Below.alloc ?_ ?_ _) | (with_reducible refine Below.drew ?_) | (with_reducible refine Below.setCell ?_ ?_ _) | (simp only [World.size_alloc, World.size_setCell, World.size_drew, more_size, World.heap_drewN]; omega) | go_size))))
        have fp := @frozen_past
        clear hc cc f1 f2 f3
        go_upto_region 5 with fail
        go_cut [18] from 18 to 51 (fun s18 wx => ∃ U2 : List Value, s18 = .int .i64 k ∧ Hid (wx.heap[p]? = some (.cells #[.slice (some ⟨g1, 0, none⟩) N N, .slice (some ⟨g2, 0, none⟩) nb nb, .int .i64 0, .int .i64 0] 31) ∧ wx.heap[w.heap.size]? = some (.cells #[.slice none 0 0, .slice none 0 0, .int .i64 0, .int .i64 0] 31)) ∧ Hid (wx.heap[wr.heap.size]? = some (.cells #[.string ⟨x.name.toArray⟩, .int .i64 x.t, .int .i64 x.n, .int .i64 x.area, .int .i64 x.init] 53)) ∧ Hid (OwnS (w.heap.size + 1) wx (.slice (some ⟨g1, 0, none⟩) N N) (.slice (some ⟨g2, 0, none⟩) nb nb) (fillR (newAt V nb k) k m 0 x.init) U2) ∧ Hid (Below w.heap.size w wx))
        case first =>
          by_cases p0 : x.n < 0
          · have p1 : (x.n < 0) = True := eq_true p0
            have p2 : (0 < x.n) = False := eq_false (by omega)
            obtain rfl : m = 0 := by have := HM.out; unfold rowN at this; omega
            clear p0
            have hmk : ∀ W, (Instr.makeSlice 45 (.int .i64 0) (.int .i64 0)).run Try.prog W = .ok (.slice (some ⟨W.heap.size, 0, none⟩) 0 0) (W.alloc (.cells (madeCells (Value.int .i64 0).cells 0) 3)) := fun W => HR.out 0 (by omega) W
            clear HM HR
            go_region
            all_goals
              go_wp2_with fail
              go_meet
              case rel => exact ⟨_, rfl, HP1, HP3, HP4, HP5⟩
          by_cases p9 : 16 < x.n
          · have p1 : (x.n < 0) = False := eq_false p0
            have p2 : (0 < x.n) = True := eq_true (by omega)
            have p3 : (16 < x.n) = True := eq_true p9
            have p4 : (x.n < 16) = False := eq_false (by omega)
            obtain rfl : m = 16 := by have := HM.out; unfold rowN at this; omega
            clear p0 p9
            have hmk : ∀ W, (Instr.makeSlice 45 (.int .i64 16) (.int .i64 16)).run Try.prog W = .ok (.slice (some ⟨W.heap.size, 0, none⟩) 16 16) (W.alloc (.cells (madeCells (Value.int .i64 0).cells 16) 3)) := fun W => HR.out 16 (by omega) W
            clear HM HR
            go_region
            all_goals
              go_wp2_with fail
              go_meet
              case rel => exact ⟨_, rfl, HP1, HP3, HP4, HP5⟩
          · have p1 : (x.n < 0) = False := eq_false p0
            have p3 : (16 < x.n) = False := eq_false p9
            have hxm : (m : Int) = x.n := by have := HM.out; unfold rowN at this; omega
            clear p0 p9
            have hmk : ∀ W, (Instr.makeSlice 45 (.int .i64 x.n) (.int .i64 x.n)).run Try.prog W = .ok (.slice (some ⟨W.heap.size, 0, none⟩) m m) (W.alloc (.cells (madeCells (Value.int .i64 0).cells m) 3)) := fun W => by have h := HR.out m (by omega) W; rw [hxm] at h; exact h
            clear HM HR
            go_region
            all_goals
              go_wp2_with fail
              go_meet
              case rel => exact ⟨_, rfl, HP1, HP3, HP4, HP5⟩
        case rest =>
          clear HP1 HP3 HP4 HP5 hgl1 hgl2 hpl1 f5 f6 fp c0 c1 c2 c3 c4 hcp hgl hpl hobj hown HR
          obtain ⟨U2, rfl, hobj, hobj7, hown, hb2⟩ := hcut
          have hcp := obj_cell hobj.out.1 (i := 0) rfl
          have hrow := hown.out.rowAt (fillR_row hkl.out)
          rw [show (List.replicate 0 x.init ++ List.replicate (m - 0) (0 : Int)).length = m by simp] at hrow
          obtain ⟨hgl, ar, cap, hrow⟩ := hrow
          clear zv hb
          generalize wr.heap.size = gx at hobj7 ⊢
          go_wp2_with fail
          go_loopw [38] (fun jj wr => ∃ (q : Nat) (U2 : List Value), q ≤ m ∧ jj = .int .i64 q ∧ Hid (wr.heap[p]? = some (.cells #[.slice (some ⟨g1, 0, none⟩) N N, .slice (some ⟨g2, 0, none⟩) nb nb, .int .i64 0, .int .i64 0] 31) ∧ wr.heap[w.heap.size]? = some (.cells #[.slice none 0 0, .slice none 0 0, .int .i64 0, .int .i64 0] 31)) ∧ Hid (wr.heap[gx]? = some (.cells #[.string ⟨x.name.toArray⟩, .int .i64 x.t, .int .i64 x.n, .int .i64 x.area, .int .i64 x.init] 53)) ∧ Hid (OwnS (w.heap.size + 1) wr (.slice (some ⟨g1, 0, none⟩) N N) (.slice (some ⟨g2, 0, none⟩) nb nb) (fillR (newAt V nb k) k m q x.init) U2) ∧ Hid (Below w.heap.size w wr)) (fun jj _ => m - (intOf jj).toNat)
          case atStart => exact ⟨0, U2, by omega, rfl, hobj, hobj7, hown, hb2⟩
          case round =>
            clear hobj hobj7 hown hb2 hcp hrow hgl
            obtain ⟨q, U2, hq, rfl, hobj, hobj7, hown, hb2⟩ := hrel
            by_cases hqm : q < m
            · have qq : ((q : Int) < (m : Int)) = True := eq_true (by omega)
              obtain ⟨bi, cap2, hgl, e1, e2, e3, e4, e5, e6, e7⟩ := hown.out.set' (fillR_row (m := m) (q := q) (x := x.init) hkl.out) (m := q) (by simp; omega) hI.out
              rw [show (List.replicate q x.init ++ List.replicate (m - q) (0 : Int)).length = m by simp; omega] at e1
              rw [fillR_set hkl.out hqm] at e6
              have hcp := obj_cell hobj.out.1 (i := 0) rfl
              have hci := obj_cell hobj7.out (i := 4) rfl
              generalize (List.replicate q x.init ++ List.replicate (m - q) (0 : Int)).getD q 0 = old at e4
              have HE1 : Hid ((wr.setCell ⟨bi, q, none⟩ (.int .i64 x.init)).heap[p]? = some (.cells #[.slice (some ⟨g1, 0, none⟩) N N, .slice (some ⟨g2, 0, none⟩) nb nb, .int .i64 0, .int .i64 0] 31) ∧ (wr.setCell ⟨bi, q, none⟩ (.int .i64 x.init)).heap[w.heap.size]? = some (.cells #[.slice none 0 0, .slice none 0 0, .int .i64 0, .int .i64 0] 31)) := Lib.hid ⟨e7 _ _ _ hobj.out.1 (by decide), e7 _ _ _ hobj.out.2 (by decide)⟩
              have HE7 : Hid ((wr.setCell ⟨bi, q, none⟩ (.int .i64 x.init)).heap[gx]? = some (.cells #[.string ⟨x.name.toArray⟩, .int .i64 x.t, .int .i64 x.n, .int .i64 x.area, .int .i64 x.init] 53)) := Lib.hid (e7 _ _ _ hobj7.out (by decide))
              have HE6 := Lib.hid e6
              have HEB := Lib.hid ((hb2.out).setCell (p := ⟨bi, q, none⟩) (by omega : w.heap.size ≤ bi) (.int .i64 x.init))
              clear e6 e7 e2 hobj hobj7 hown
              go_wp2_with fail
              go_region
              go_wp2_with fail
              go_roundw
              case rel => exact ⟨q + 1, U2, by omega, by simp, HE1, HE7, Lib.hid (HE6.out.congr (w' := World.drew _) (fun g _ => rfl)), Lib.hid HEB.out.drew⟩
              case measure => first | (simp [intOf]; done) | (simp [intOf]; omega)
            · obtain rfl : q = m := by omega
              have qq : ((q : Int) < (q : Int)) = False := eq_false (by omega)
              go_wp2_with fail
              go_roundw
              case rel => exact ⟨k + 1, U2, by omega, by simp, hobj, Lib.hid (HK.out ▸ hown.out), hb2⟩
              case measure => first | (simp [intOf]; done) | (simp [intOf]; omega)
      · obtain rfl : k = N := by omega
        have qk : ((k : Int) < (k : Int)) = False := eq_false (by omega)
        have d0 := obj_cell hobj.out.1 (i := 0) rfl
        have d1 := obj_cell hobj.out.1 (i := 1) rfl
        have d2 := obj_cell hobj.out.1 (i := 2) rfl
        have d3 := obj_cell hobj.out.1 (i := 3) rfl
        have r0 := obj_cell hobj.out.2 (i := 0) rfl
        have r1 := obj_cell hobj.out.2 (i := 1) rfl
        have r2 := obj_cell hobj.out.2 (i := 2) rfl
        have r3 := obj_cell hobj.out.2 (i := 3) rfl
        have k0 := hobj.out.2
        have k1 := obj_self (i := 0) (x := .slice (some ⟨g1, 0, none⟩) k k) k0
        have k2 := obj_self (i := 1) (x := .slice (some ⟨g2, 0, none⟩) nb nb) k1
        have k3 := obj_self (i := 2) (x := .int .i64 0) k2
        have k4 := obj_self (i := 3) (x := .int .i64 0) k3
        have z0 := obj_frozen k0 0
        have z1 := obj_frozen k1 1
        have z2 := obj_frozen k2 2
        have z3 := obj_frozen k3 3
        have e0 := obj_cell k4 (i := 0) rfl
        have e1 := obj_cell k4 (i := 1) rfl
        have e2 := obj_cell k4 (i := 2) rfl
        have e3 := obj_cell k4 (i := 3) rfl
        have HK4 := Lib.hid (show OwnS w.heap.size _ _ _ _ _ from OwnS.low (OwnS.congr (w' := (((wr.setCell ⟨w.heap.size, 0, none⟩ (.slice (some ⟨g1, 0, none⟩) k k)).setCell ⟨w.heap.size, 1, none⟩ (.slice (some ⟨g2, 0, none⟩) nb nb)).setCell ⟨w.heap.size, 2, none⟩ (.int .i64 0)).setCell ⟨w.heap.size, 3, none⟩ (.int .i64 0)) hown.out (fun g hg => by rw [get_set (by simp; omega), get_set (by simp; omega), get_set (by simp; omega), get_set (by simp; omega)])) (Nat.le_succ _))
        have HB4 := Lib.hid ((((hb.out.setCell (p := ⟨w.heap.size, 0, none⟩) (Nat.le_refl _) (.slice (some ⟨g1, 0, none⟩) k k)).setCell (p := ⟨w.heap.size, 1, none⟩) (Nat.le_refl _) (.slice (some ⟨g2, 0, none⟩) nb nb)).setCell (p := ⟨w.heap.size, 2, none⟩) (Nat.le_refl _) (.int .i64 0)).setCell (p := ⟨w.heap.size, 3, none⟩) (Nat.le_refl _) (.int .i64 0))
        clear k0 k1 k2 k3 k4
        go_wp2_with fail
        refine bodyPost_ret (by simp [results, Try.results9, go_sem, e0, e1, e2, e3]; try rfl) rfl ?_
        exact ⟨_, _, U, rfl, by rw [← newAt_end, HN.out]; exact HK4.out, HB4.out⟩
end Go.Proofs.Ythanmbfelihkfaa
