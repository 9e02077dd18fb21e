/- Sets: with one more; whether one is there. -/
import Derived.Test.YtemihfcenmhieaaBitC
import Derived.Deep.RegionHeld
namespace Go.Proofs.Ytemihfcenmhieaa
open Go.RowKit
set_option linter.unusedSimpArgs false
set_option linter.unusedVariables false
theorem shl_1 (o : Nat) (ho : o < 64) : IntKind.u64.wrap (2 ^ o) = ((2 ^ o : Nat) : Int) := by
  have h1 : 2 ^ o < 18446744073709551616 := Nat.pow_lt_pow_right (by decide) ho
  rw [show ((2 : Int) ^ o) = ((2 ^ o : Nat) : Int) by simp, wrap_u _ h1]
theorem or_u (a b : Nat) (ha : a < 18446744073709551616) (hb : b < 18446744073709551616) : bits .or .u64 (a : Int) (b : Int) = ((a ||| b : Nat) : Int) := by
  have hx : a ||| b < 2 ^ 64 := Nat.or_lt_two_pow (by omega) (by omega)
  have h1 : (BitVec.ofInt 64 (a : Int)).toNat = a := by
    rw [BitVec.ofInt_natCast, BitVec.toNat_ofNat]; exact Nat.mod_eq_of_lt (by omega)
  have h2 : (BitVec.ofInt 64 (b : Int)).toNat = b := by
    rw [BitVec.ofInt_natCast, BitVec.toNat_ofNat]; exact Nat.mod_eq_of_lt (by omega)
  show IntKind.u64.wrap ((BitVec.ofInt 64 (a : Int) ||| BitVec.ofInt 64 (b : Int)).toNat : Int) = _
  rw [BitVec.toNat_or, h1, h2, wrap_u _ (by omega)]
theorem far_cell {w : World} {g q b i : Nat} {v : Value} (h : ¬ g = b) : (w.setCell ⟨g, q, none⟩ v).cell? ⟨b, i, none⟩ = w.cell? ⟨b, i, none⟩ := World.cell?_setCell_far w _ _ v h
theorem far_frozen {w : World} {g q b i : Nat} {v : Value} (h : ¬ g = b) : (w.setCell ⟨g, q, none⟩ v).frozen? ⟨b, i, none⟩ = w.frozen? ⟨b, i, none⟩ := by
  unfold World.frozen?
  rw [get_set (show (⟨g, q, none⟩ : Addr).block ≠ (⟨b, i, none⟩ : Addr).block from h)]
theorem fin_set {w W2 : World} {g q n p : Nat} {ws : List Nat} {x0 x1 z0 z1 : Value} {T : TypeId} (hg : W2.heap[g]? = some (.cells (uV ws) 49)) (h1 : W2.heap[p]? = some (.cells #[x0, x1] T)) (hb : Below w.heap.size w W2) (h0 : w.heap.size ≤ g ∧ w.heap.size ≤ p) (hne : ¬ g = p) :
    ∃ W, W = (((W2.setCell ⟨g, q, none⟩ (.int .u64 (n : Int))).setCell ⟨p, 0, none⟩ z0).setCell ⟨p, 1, none⟩ z1).drew ∧ W.cell? ⟨p, 0, none⟩ = some z0 ∧ W.cell? ⟨p, 1, none⟩ = some z1 ∧ W.heap[g]? = some (.cells (uV (ws.set q n)) 49) ∧ Below w.heap.size w W := by
  refine ⟨_, rfl, ?_⟩
  have e1 : (W2.setCell ⟨g, q, none⟩ (.int .u64 (n : Int))).heap[p]? = some (.cells #[x0, x1] T) := by rw [get_set (show (⟨g, q, none⟩ : Addr).block ≠ p from hne)]; exact h1
  have e2 := obj_self (i := 1) (x := z1) (obj_self (i := 0) (x := z0) e1)
  refine ⟨obj_cell e2 (i := 0) rfl, obj_cell e2 (i := 1) rfl, ?_, ((((hb.setCell h0.1 _).setCell h0.2 _).setCell h0.2 _).drew)⟩
  rw [drew_heap, get_set (show (⟨p, 1, none⟩ : Addr).block ≠ g from fun e => hne e.symm), get_set (show (⟨p, 0, none⟩ : Addr).block ≠ g from fun e => hne e.symm), obj_self hg, uV_set]
set_option maxHeartbeats 2000000 in
theorem bits_With (v : Value) (x : List Bool) (i : Int) (w : World) (hx : SetR w v x) : Calls Try.prog 24 #[v, .int .i64 i] w fun e w' => ∃ v', e = .returned v' ∧ SetR w' v' (withB x i) ∧ Below w.heap.size w w' := by
  have hx0 := Lib.hid hx
  obtain ⟨vs, a, c, rfl, hvs, hlen, hcell⟩ := hx
  obtain ⟨n, hn⟩ : ∃ n, x.length = n := ⟨_, rfl⟩
  obtain ⟨K, hK⟩ : ∃ K, vs.length = K := ⟨_, rfl⟩
  have HN := Lib.hid hn
  have HK := Lib.hid hK
  rw [hn, hK] at hx0 ⊢
  rw [hn] at hlen
  clear hcell hn hK
  by_cases hi : 0 ≤ i ∧ i < (n : Int)
  · obtain ⟨k, rfl⟩ : ∃ k : Nat, i = (k : Int) := ⟨i.toNat, by omega⟩
    have hk : k < n := by omega
    have p1 : ((k : Int) < 0) = False := eq_false (by omega)
    have p2 : ((n : Int) ≤ (k : Int)) = False := eq_false (by omega)
    have p3 : (n ≤ k) = False := eq_false (by omega)
    have HW := Lib.hid (show withB x k = x.set k true by unfold withB; rw [if_pos ⟨by omega, by rw [HN.out]; omega⟩]; rfl)
    rw [HW.out]
    have HKk := Lib.hid hk
    have HC := Lib.hid (fun W (h : Below w.heap.size w W) => bits_cut _ x n hlen W (hx0.out.below h))
    clear hi hk
    go_enter Try.func24, Try.ntmps24
    go_wp2_with fail
    refine (HC.out _ (by (repeat' (first | (with_reducible exact Below.refl _ _) | (with_reducible assumption) | (with_reducible refine below_drewN ?_ _) | (with_reducible refine Below.alloc ?_ ?_ _) | (with_reducible refine Below.drew ?_) | (with_reducible refine Below.setCell ?_ ?_ _) | go_size)))).mono ?_
    rintro e W1 ⟨g, ws, rfl, hF, hW⟩
    have hgl := heap_lt hF.obj
    have hsz := hF.below.size
    rw [World.size_alloc, World.size_alloc] at hsz
    have hgb := hF.base
    rw [World.size_alloc, World.size_alloc] at hgb
    have hw64 := hW.lt (k / 64)
    have hb1 : Below (w.heap.size + 1 + 1) ((w.alloc (.cells #[.int .i64 n, .slice a K c] 35)).alloc (.cells #[.int .i64 0, .slice none 0 0] 35)) W1 := by
      have := hF.below; rw [World.size_alloc, World.size_alloc] at this; exact this
    have o1 : W1.heap[w.heap.size + 1]? = some (.cells #[.int .i64 0, .slice none 0 0] 35) := obj_below (get_last (by simp)) hb1 (by omega)
    have hwl := hW.1
    rw [resize_len] at hwl
    obtain ⟨m, hm⟩ : ∃ m, (n + 63) / 64 = m := ⟨_, rfl⟩
    rw [hm] at hwl ⊢
    obtain ⟨W2, hW2⟩ : ∃ W2, W2 = W1.alloc (.cells #[.int .i64 n, .slice (some ⟨g, 0, none⟩) m m] 35) := ⟨_, rfl⟩
    have q2 : W2.heap[W1.heap.size]? = some (.cells #[.int .i64 n, .slice (some ⟨g, 0, none⟩) m m] 35) := by rw [hW2]; exact get_last rfl
    have q1 : W2.heap[w.heap.size + 1]? = some (.cells #[.int .i64 0, .slice none 0 0] 35) := by rw [hW2, get_past (heap_lt o1)]; exact o1
    have qg : W2.heap[g]? = some (.cells (uV ws) 49) := by rw [hW2, get_past hgl]; exact hF.obj
    have HB2 := Lib.hid (show Below w.heap.size w W2 from by rw [hW2]; exact (Below.trans (by (repeat' (first | (with_reducible exact Below.refl _ _) | (with_reducible assumption) | (with_reducible refine below_drewN ?_ _) | (with_reducible refine Below.alloc ?_ ?_ _) | (with_reducible refine Below.drew ?_) | (with_reducible refine Below.setCell ?_ ?_ _) | go_size))) (hb1.mono (by omega))).alloc (by omega) _)
    have c21 : W2.cell? ⟨W1.heap.size, 1, none⟩ = some (.slice (some ⟨g, 0, none⟩) m m) := obj_cell q2 (i := 1) rfl
    have hkm : k / 64 < m := by have := HKk.out; omega
    obtain ⟨q, hq⟩ : ∃ q, k / 64 = q := ⟨_, rfl⟩
    obtain ⟨o, ho⟩ : ∃ o, k % 64 = o := ⟨_, rfl⟩
    have e1 : (k : Int) / 64 = (q : Int) := by omega
    have e2 : (k : Int) % 64 = (o : Int) := by omega
    have ho64 : o < 64 := by omega
    have e3 : (k : Int).tmod 64 = (o : Int) := by rw [Int.tmod_eq_emod_of_nonneg (by omega)]; exact e2
    rw [hq] at hw64 hkm
    obtain ⟨y, hy⟩ : ∃ y, ws.getD q 0 = y := ⟨_, rfl⟩
    have cg : W2.cell? ⟨g, q, none⟩ = some (.int .u64 (y : Int)) := by rw [← hy]; exact obj_cell qg (uV_get (by omega))
    have fg : W2.frozen? ⟨g, q, none⟩ = false := obj_frozen qg _
    have hqm : (q : Int) < (m : Int) := by omega
    rw [hy] at hw64
    have hwq : IntKind.i64.wrap (q : Int) = (q : Int) := by rw [IntKind.wrap_i64]; omega
    have hwo : IntKind.i64.wrap (o : Int) = (o : Int) := by rw [IntKind.wrap_i64]; omega
    have hs := shl_1 o ho64
    have hpow : 2 ^ o < 18446744073709551616 := Nat.pow_lt_pow_right (by decide) ho64
    have hor := or_u y (2 ^ o) hw64 hpow
    have HW2 := Lib.hid hW2
    have HY := Lib.hid hy
    have HQ := Lib.hid hq
    have HO := Lib.hid ho
    have HQ1 := Lib.hid q1
    have HQ2 := Lib.hid q2
    have HQG := Lib.hid qg
    have HM := Lib.hid hm
    have HWL := Lib.hid hwl
    have HWD := Lib.hid hW
    have HG := Lib.hid hgb
    have HGL := Lib.hid (show g < W1.heap.size from hgl)
    have HS := Lib.hid hsz
    clear hW2 hy hq ho q1 q2 qg hm hwl hW hF hb1 o1 hgl hsz hgb hpow hkm
    go_wp2_with fail
    rw [← HW2.out]
    go_still_tail 11, (by kernel_rfl)
    change wpList _ _ _ _ _ W2.drew
    have fg : W2.drew.frozen? ⟨g, q, none⟩ = false := fg
    have cg : W2.drew.cell? ⟨g, q, none⟩ = some (.int .u64 (y : Int)) := cg
    have HV := Lib.hid (show bits .or .u64 (y : Int) (2 ^ o) = ((y ||| 2 ^ o : Nat) : Int) by rw [show ((2 : Int) ^ o) = ((2 ^ o : Nat) : Int) by simp]; exact hor)
    have n1 : ¬ g = W1.heap.size := by have := HGL.out; omega
    have n2 : ¬ g = w.heap.size + 1 := by have := HG.out; omega
    have sf := @far_cell
    have sz := @far_frozen
    have c20 : W2.cell? ⟨W1.heap.size, 0, none⟩ = some (.int .i64 n) := obj_cell HQ2.out (i := 0) rfl
    have d0 : W2.cell? ⟨w.heap.size + 1, 0, none⟩ = some (.int .i64 0) := obj_cell HQ1.out (i := 0) rfl
    have d1 : W2.cell? ⟨w.heap.size + 1, 1, none⟩ = some (.slice none 0 0) := obj_cell HQ1.out (i := 1) rfl
    have f0 := obj_frozen HQ1.out 0
    have f1 := obj_frozen HQ1.out 1
    clear hor
    go_wp2_with fail
    rw [HV.out]
    obtain ⟨W4, hW4, y0, y1, hS, hb⟩ := fin_set (w := w) (z0 := .int .i64 n) (z1 := .slice (some ⟨g, 0, none⟩) m m) HQG.out HQ1.out HB2.out (by have := HG.out; omega) n2 (q := q) (n := y ||| 2 ^ o)
    rw [← hW4]
    refine bodyPost_ret (by simp [results, Try.results24, go_sem, y0, y1]; try rfl) rfl ?_
    have hx := wds_with (x := x) (ws := ws) (by rw [← resize_self x, HN.out]; exact HWD.out) (i := k) (by rw [HN.out]; exact HKk.out)
    rw [HQ.out, HO.out, HY.out] at hx
    have hr := FreshW.set ⟨by have := HG.out; omega, hS, hb⟩ hx (by rw [List.length_set, HN.out]; exact hlen) (m := m) (by rw [List.length_set]; exact HWL.out)
    rw [List.length_set, HN.out] at hr
    exact ⟨_, rfl, hr, hb⟩
  · have HW := Lib.hid (show withB x i = x by unfold withB; rw [if_neg (by rw [HN.out]; exact hi)])
    rw [HW.out]
    by_cases h0 : i < 0
    · have p1 : (i < 0) = True := eq_true h0
      clear hi h0
      go_enter Try.func24, Try.ntmps24
      go_wp2_with fail
      refine bodyPost_ret (by simp [results, Try.results24, go_sem, more_cell, more_size, more_frozen]; try rfl) rfl ?_
      exact ⟨_, rfl, hx0.out.below (by (repeat' (first | (with_reducible exact Below.refl _ _) | (with_reducible assumption) | (with_reducible refine below_drewN ?_ _) | (with_reducible refine Below.alloc ?_ ?_ _) | (with_reducible refine Below.drew ?_) | (with_reducible refine Below.setCell ?_ ?_ _) | go_size))), by (repeat' (first | (with_reducible exact Below.refl _ _) | (with_reducible assumption) | (with_reducible refine below_drewN ?_ _) | (with_reducible refine Below.alloc ?_ ?_ _) | (with_reducible refine Below.drew ?_) | (with_reducible refine Below.setCell ?_ ?_ _) | go_size))⟩
    · have p1 : (i < 0) = False := eq_false h0
      have p2 : ((n : Int) ≤ i) = True := eq_true (by omega)
      clear hi h0
      go_enter Try.func24, Try.ntmps24
      go_wp2_with fail
      refine bodyPost_ret (by simp [results, Try.results24, go_sem, more_cell, more_size, more_frozen]; try rfl) rfl ?_
      exact ⟨_, rfl, hx0.out.below (by (repeat' (first | (with_reducible exact Below.refl _ _) | (with_reducible assumption) | (with_reducible refine below_drewN ?_ _) | (with_reducible refine Below.alloc ?_ ?_ _) | (with_reducible refine Below.drew ?_) | (with_reducible refine Below.setCell ?_ ?_ _) | go_size))), by (repeat' (first | (with_reducible exact Below.refl _ _) | (with_reducible assumption) | (with_reducible refine below_drewN ?_ _) | (with_reducible refine Below.alloc ?_ ?_ _) | (with_reducible refine Below.drew ?_) | (with_reducible refine Below.setCell ?_ ?_ _) | go_size))⟩
end Go.Proofs.Ytemihfcenmhieaa
