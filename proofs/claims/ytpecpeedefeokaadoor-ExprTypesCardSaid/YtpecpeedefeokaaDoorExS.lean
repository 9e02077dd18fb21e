/- Whether two expressions are the same, by both. -/
import Derived.Test.YtpecpeedefeokaaDoorExC
import Derived.Test.YtpecpeedefeokaaDoorKeep
import Derived.Test.YtpecpeedefeokaaDoorHeldMore
import Derived.Deep.CutRange
import Derived.Deep.Cut
namespace Go.Proofs.YtpecpeedefeokaaDoor
open Go.RowKit
set_option linter.unusedSimpArgs false
set_option linter.unusedVariables false
noncomputable def sameE (a b : Ex) : Bool := @decide (a = b) (Classical.propDecidable _)
theorem sameE_yes {a b : Ex} (h : a = b) : sameE a b = true := @decide_eq_true _ (Classical.propDecidable _) h
theorem sameE_no {a b : Ex} (h : ¬ a = b) : sameE a b = false := @decide_eq_false _ (Classical.propDecidable _) h
theorem sameE_eq {a b : Ex} (h : sameE a b = true) : a = b := @of_decide_eq_true _ (Classical.propDecidable _) h
theorem lists_eq {l l2 : List Ex} (hl : l.length = l2.length) (h : ∀ (i : Nat) (x y : Ex), l[i]? = some x → l2[i]? = some y → x = y) : l = l2 := by
  apply List.ext_getElem?
  intro i
  by_cases hi : i < l.length
  · have hi' : i < l2.length := by omega
    rw [List.getElem?_eq_getElem hi, List.getElem?_eq_getElem hi']
    congr 1
    exact h i _ _ (List.getElem?_eq_getElem hi) (List.getElem?_eq_getElem hi')
  · rw [List.getElem?_eq_none (by omega), List.getElem?_eq_none (by omega)]
set_option maxHeartbeats 2000000 in
theorem expr_Same : ∀ a b w v u, ExV w v a → ExV w u b → Calls Tryd.prog 18 #[v, u] w fun r w' => r = .returned (.bool (sameE a b)) ∧ Below w.heap.size w w' := by
  intro a
  induction a using Ex.ind with
  | h op t n m l ih =>
    intro b w v u hv hu
    have HIH := Lib.hid (fun x (hx : x ∈ l) y W v u (hv : ExV W v x) (hu : ExV W u y) => ih x hx y W v u hv hu)
    obtain ⟨op2, t2, n2, m2, l2⟩ := b
    obtain ⟨s1, rfl, hr1, hrow1⟩ := hv
    obtain ⟨s2, rfl, hr2, hrow2⟩ := hu
    simp only at hrow1 hrow2 ⊢
    have hl1 := hrow1.len
    have hl2 := hrow2.len
    obtain ⟨sa, sc, rfl⟩ := row_get hrow1
    obtain ⟨sa2, sc2, rfl⟩ := row_get hrow2
    have HX := Lib.hid hrow1
    have HY := Lib.hid hrow2
    obtain ⟨N, hN⟩ : ∃ N, l.length = N := ⟨_, rfl⟩
    obtain ⟨N2, hN2⟩ : ∃ N, l2.length = N := ⟨_, rfl⟩
    have HN := Lib.hid hN
    have HN2 := Lib.hid hN2
    rw [hN] at HX hl1 ⊢
    rw [hN2] at HY hl2 ⊢
    clear ih hr1 hr2 hrow1 hrow2
    by_cases h0 : op = op2
    case neg =>
      have hno := Lib.hid (sameE_no (a := ⟨op, t, n, m, l⟩) (b := ⟨op2, t2, n2, m2, l2⟩) (fun h => h0 (congrArg Ex.op h)))
      have e0 : (op != op2) = true := by rw [bne_iff_ne]; exact h0
      rw [hno.out]
      clear h0 hN hN2 
      go_enter Tryd.func18, Tryd.ntmps18
      go_wp2_with fail
      go_ret
      exact ⟨rfl, by (repeat' (first | (with_reducible exact Below.refl _ _) | (with_reducible assumption) | (with_reducible refine below_drewN ?_ _) | (with_reducible refine Below.alloc ?_ ?_ _) | (with_reducible refine Below.drew ?_) | (with_reducible refine Below.setCell ?_ ?_ _) | go_size))⟩
    subst h0
    have e0 : (op != op) = false := by simp
    by_cases h1 : t = t2
    case neg =>
      have hno := Lib.hid (sameE_no (a := ⟨op, t, n, m, l⟩) (b := ⟨op, t2, n2, m2, l2⟩) (fun h => h1 (congrArg Ex.t h)))
      have e1 : (t != t2) = true := by rw [bne_iff_ne]; exact h1
      rw [hno.out]
      clear h1 hN hN2 
      go_enter Tryd.func18, Tryd.ntmps18
      go_wp2_with fail
      go_ret
      exact ⟨rfl, by (repeat' (first | (with_reducible exact Below.refl _ _) | (with_reducible assumption) | (with_reducible refine below_drewN ?_ _) | (with_reducible refine Below.alloc ?_ ?_ _) | (with_reducible refine Below.drew ?_) | (with_reducible refine Below.setCell ?_ ?_ _) | go_size))⟩
    subst h1
    have e1 : (t != t) = false := by simp
    by_cases h2 : n = n2
    case neg =>
      have hno := Lib.hid (sameE_no (a := ⟨op, t, n, m, l⟩) (b := ⟨op, t, n2, m2, l2⟩) (fun h => h2 (congrArg Ex.n h)))
      have e2 : (n != n2) = true := by rw [bne_iff_ne]; exact h2
      rw [hno.out]
      clear h2 hN hN2 
      go_enter Tryd.func18, Tryd.ntmps18
      go_wp2_with fail
      go_ret
      exact ⟨rfl, by (repeat' (first | (with_reducible exact Below.refl _ _) | (with_reducible assumption) | (with_reducible refine below_drewN ?_ _) | (with_reducible refine Below.alloc ?_ ?_ _) | (with_reducible refine Below.drew ?_) | (with_reducible refine Below.setCell ?_ ?_ _) | go_size))⟩
    subst h2
    have e2 : (n != n) = false := by simp
    by_cases h3 : m = m2
    case neg =>
      have hno := Lib.hid (sameE_no (a := ⟨op, t, n, m, l⟩) (b := ⟨op, t, n, m2, l2⟩) (fun h => h3 (congrArg Ex.m h)))
      have e3 : (m != m2) = true := by rw [bne_iff_ne]; exact h3
      rw [hno.out]
      clear h3 hN hN2 
      go_enter Tryd.func18, Tryd.ntmps18
      go_wp2_with fail
      go_ret
      exact ⟨rfl, by (repeat' (first | (with_reducible exact Below.refl _ _) | (with_reducible assumption) | (with_reducible refine below_drewN ?_ _) | (with_reducible refine Below.alloc ?_ ?_ _) | (with_reducible refine Below.drew ?_) | (with_reducible refine Below.setCell ?_ ?_ _) | go_size))⟩
    subst h3
    have e3 : (m != m) = false := by simp
    by_cases h4 : N = N2
    case neg =>
      have hno := Lib.hid (sameE_no (a := ⟨op, t, n, m, l⟩) (b := ⟨op, t, n, m, l2⟩) (fun h => h4 (by rw [← hN, ← hN2]; exact congrArg (fun e => e.l.length) h)))
      have e4 : ((N : Int) != (N2 : Int)) = true := by rw [bne_iff_ne]; omega
      rw [hno.out]
      clear h4 hN hN2
      go_enter Tryd.func18, Tryd.ntmps18
      go_wp2_with fail
      go_ret
      exact ⟨rfl, by (repeat' (first | (with_reducible exact Below.refl _ _) | (with_reducible assumption) | (with_reducible refine below_drewN ?_ _) | (with_reducible refine Below.alloc ?_ ?_ _) | (with_reducible refine Below.drew ?_) | (with_reducible refine Below.setCell ?_ ?_ _) | go_size))⟩
    subst h4
    have e4 : ((N : Int) != (N : Int)) = false := by simp
    have HY1 := Lib.hid (fun (h : ∀ (i : Nat) (x y : Ex), l[i]? = some x → l2[i]? = some y → x = y) => sameE_yes (show (⟨op, t, n, m, l⟩ : Ex) = ⟨op, t, n, m, l2⟩ from by rw [lists_eq (hN.trans hN2.symm) h]))
    have HNo := Lib.hid (fun (i : Nat) (x y : Ex) (hx : l[i]? = some x) (hy : l2[i]? = some y) (h : ¬ x = y) => sameE_no (a := ⟨op, t, n, m, l⟩) (b := ⟨op, t, n, m, l2⟩) (fun e => h (by
      have e' : l = l2 := congrArg Ex.l e
      rw [e', hy] at hx
      exact (Option.some.inj hx).symm)))
    obtain ⟨R, hR⟩ : ∃ R, sameE ⟨op, t, n, m, l⟩ ⟨op, t, n, m, l2⟩ = R := ⟨_, rfl⟩
    rw [hR] at HY1 HNo ⊢
    clear hN hN2 hR
    obtain ⟨W0, hW0⟩ : ∃ W0, W0 = (w.alloc (.cells #[.int .i64 op, .int .i64 t, .int .i64 n, .int .i64 m, .slice sa N sc] 30)).alloc (.cells #[.int .i64 op, .int .i64 t, .int .i64 n, .int .i64 m, .slice sa2 N sc2] 30) := ⟨_, rfl⟩
    have o0 : W0.heap[w.heap.size]? = some (.cells #[.int .i64 op, .int .i64 t, .int .i64 n, .int .i64 m, .slice sa N sc] 30) := by rw [hW0, get_past (by simp)]; exact get_last rfl
    have o1 : W0.heap[w.heap.size + 1]? = some (.cells #[.int .i64 op, .int .i64 t, .int .i64 n, .int .i64 m, .slice sa2 N sc2] 30) := by rw [hW0]; exact get_last (by simp)
    have hb0 : Below w.heap.size w W0 := by rw [hW0]; exact by (repeat' (first | (with_reducible exact Below.refl _ _) | (with_reducible assumption) | (with_reducible refine below_drewN ?_ _) | (with_reducible refine Below.alloc ?_ ?_ _) | (with_reducible refine Below.drew ?_) | (with_reducible refine Below.setCell ?_ ?_ _) | go_size))
    have hsz0 : W0.heap.size = w.heap.size + 1 + 1 := by rw [hW0]; simp
    have HW0 := Lib.hid hW0
    have HO0 := Lib.hid o0
    have HO1 := Lib.hid o1
    have HB0 := Lib.hid hb0
    clear hW0 o0 o1 hb0
    go_enter Tryd.func18, Tryd.ntmps18
    go_wp2_with fail
    rw [← HW0.out]
    go_loopw [45] (fun jj wr => ∃ k : Nat, k ≤ N ∧ jj = .int .i64 k ∧ Hid (∀ (i : Nat) (x y : Ex), i < k → l[i]? = some x → l2[i]? = some y → x = y) ∧ Hid (Below W0.heap.size W0 wr)) (fun jj _ => N - (intOf jj).toNat)
    case atStart => exact ⟨0, by omega, rfl, Lib.hid (fun i x y h => by omega), Lib.hid (Below.refl _ _)⟩
    case round =>
      obtain ⟨k, hk, rfl, hall, hB⟩ := hrel
      have hBw := HB0.out.trans (hB.out.mono (by omega))
      have p0 := obj_below HO0.out hB.out (by omega)
      have p1 := obj_below HO1.out hB.out (by omega)
      have z2 := heap_lt p0
      have z3 := heap_lt p1
      have c24 : wr.cell? ⟨w.heap.size, 4, none⟩ = some (.slice sa N sc) := obj_cell p0 (i := 4) rfl
      have c34 : wr.cell? ⟨w.heap.size + 1, 4, none⟩ = some (.slice sa2 N sc2) := obj_cell p1 (i := 4) rfl
      by_cases hlt : k < N
      · have qk : ((k : Int) < (N : Int)) = True := eq_true (by omega)
        have qk' : (k < N) = True := eq_true hlt
        obtain ⟨x, hx⟩ := get_some (L := l) (n := k) (by rw [HN.out]; exact hlt)
        obtain ⟨y, hy⟩ := get_some (L := l2) (n := k) (by rw [HN2.out]; exact hlt)
        obtain ⟨b, off, s1, sn1, sc1, rfl, hbw, hc1, hc2, d0, d1, d2, d3, d4, hxv⟩ := ex_at HX.out hx
        obtain ⟨b2, off2, s3, sn3, sc3, rfl, hbw2, hc3, hc4, y0, y1, y2, y3, y4, hyv⟩ := ex_at HY.out hy
        have hmem := List.mem_of_getElem? hx
        have d0 := (hBw.cell (p := ⟨b, off + k * 5, none⟩) hbw).trans d0
        have d1 := (hBw.cell (p := ⟨b, off + k * 5 + 1, none⟩) hbw).trans d1
        have d2 := (hBw.cell (p := ⟨b, off + k * 5 + 2, none⟩) hbw).trans d2
        have d3 := (hBw.cell (p := ⟨b, off + k * 5 + 3, none⟩) hbw).trans d3
        have d4 := (hBw.cell (p := ⟨b, off + k * 5 + 4, none⟩) hbw).trans d4
        have y0 := (hBw.cell (p := ⟨b2, off2 + k * 5, none⟩) hbw2).trans y0
        have y1 := (hBw.cell (p := ⟨b2, off2 + k * 5 + 1, none⟩) hbw2).trans y1
        have y2 := (hBw.cell (p := ⟨b2, off2 + k * 5 + 2, none⟩) hbw2).trans y2
        have y3 := (hBw.cell (p := ⟨b2, off2 + k * 5 + 3, none⟩) hbw2).trans y3
        have y4 := (hBw.cell (p := ⟨b2, off2 + k * 5 + 4, none⟩) hbw2).trans y4
        have zx : b < wr.heap.size := Nat.lt_of_lt_of_le hbw hBw.size
        have zy : b2 < wr.heap.size := Nat.lt_of_lt_of_le hbw2 hBw.size
        have hxw := hxv.below hBw
        have hyw := hyv.below hBw
        have hk63 : k ≤ 9223372036854775806 := by omega
        have HLT := Lib.hid hlt
        have HBr := Lib.hid hB.out
        have HBW := Lib.hid hBw
        have hsz := hB.out.size
        obtain ⟨WX, hWX⟩ : ∃ WX, WX = wr.alloc (.cells #[.int .i64 x.op, .int .i64 x.t, .int .i64 x.n, .int .i64 x.m, .slice s1 sn1 sc1] 30) := ⟨_, rfl⟩
        have hbX : Below wr.heap.size wr WX := by rw [hWX]; exact by (repeat' (first | (with_reducible exact Below.refl _ _) | (with_reducible assumption) | (with_reducible refine below_drewN ?_ _) | (with_reducible refine Below.alloc ?_ ?_ _) | (with_reducible refine Below.drew ?_) | (with_reducible refine Below.setCell ?_ ?_ _) | go_size))
        have oX : WX.heap[wr.heap.size]? = some (.cells #[.int .i64 x.op, .int .i64 x.t, .int .i64 x.n, .int .i64 x.m, .slice s1 sn1 sc1] 30) := by rw [hWX]; exact get_last rfl
        have c0 : WX.cell? ⟨wr.heap.size, 0, none⟩ = some (.int .i64 x.op) := obj_cell oX (i := 0) rfl
        have c1 : WX.cell? ⟨wr.heap.size, 1, none⟩ = some (.int .i64 x.t) := obj_cell oX (i := 1) rfl
        have c2 : WX.cell? ⟨wr.heap.size, 2, none⟩ = some (.int .i64 x.n) := obj_cell oX (i := 2) rfl
        have c3 : WX.cell? ⟨wr.heap.size, 3, none⟩ = some (.int .i64 x.m) := obj_cell oX (i := 3) rfl
        have c4 : WX.cell? ⟨wr.heap.size, 4, none⟩ = some (.slice s1 sn1 sc1) := obj_cell oX (i := 4) rfl
        have z6 := heap_lt oX
        have HC := Lib.hid (fun W (h : Below WX.heap.size WX W) => HIH.out x hmem y W _ _ ((hxw.below hbX).below h) ((hyw.below hbX).below h))
        have HWX := Lib.hid hWX
        have HBX := Lib.hid hbX
        have hsr := hbX.size
        obtain ⟨B, hBq⟩ : ∃ B, sameE x y = B := ⟨_, rfl⟩
        rw [hBq] at HC
        have HBq := Lib.hid hBq
        have HXY := Lib.hid (And.intro hx hy)
        clear hxv hyv hxw hyw hmem hx hy hlt hBq hBw hWX hbX oX
        generalize x.op = x0 at *
        generalize x.t = x1 at *
        generalize x.n = x2 at *
        generalize x.m = x3 at *
        generalize y.op = v0 at *
        generalize y.t = v1 at *
        generalize y.n = v2 at *
        generalize y.m = v3 at *
        go_upto_region 6 with fail
        rw [← HWX.out]
        clear d0 d1 d2 d3 d4
        have y0 := (HBX.out.cell (p := ⟨b2, off2 + k * 5, none⟩) zy).trans y0
        have y1 := (HBX.out.cell (p := ⟨b2, off2 + k * 5 + 1, none⟩) zy).trans y1
        have y2 := (HBX.out.cell (p := ⟨b2, off2 + k * 5 + 2, none⟩) zy).trans y2
        have y3 := (HBX.out.cell (p := ⟨b2, off2 + k * 5 + 3, none⟩) zy).trans y3
        have y4 := (HBX.out.cell (p := ⟨b2, off2 + k * 5 + 4, none⟩) zy).trans y4
        have c34 := (HBX.out.cell (p := ⟨w.heap.size + 1, 4, none⟩) z3).trans c34
        have zy := Nat.lt_of_lt_of_le zy hsr
        have z3 := Nat.lt_of_lt_of_le z3 hsr
        refine wp_region_held_drew (S := (fun w' => Below WX.heap.size WX w')) (by kernel_rfl) ?_ (fun hHeld => ?_)
        · (try dsimp only); first | assumption | exact Below.alloc hHeld hHeld.size _ | exact (Below.refl _ _).drew | exact Below.drew (Below.refl _ _) | exact Below_drewN _ _ _ | exact Below.refl _ _ | (trace_state; fail)
        refine wpAnyH_take (i := 0) (oi := { dst := some 50, op := Op.load 30 (Operand.tmp 6), type := 30, pos := _, after := #[], guard := none }) (v := ?_) rfl (by kernel_rfl) (by kernel_rfl) (by kernel_rfl) (fun _ _ _ h => h) (Or.inl ⟨by rfl, ?_⟩) (by assumption) ?_
        rotate_left
        · intro wt hSw; (try dsimp only at hSw); have c0 := cellB hSw c0 z6; have c1 := cellB hSw c1 z6; have c2 := cellB hSw c2 z6; have c3 := cellB hSw c3 z6; have c4 := cellB hSw c4 z6; have c34 := cellB hSw c34 z3; have y0 := cellB hSw y0 zy; have y1 := cellB hSw y1 zy; have y2 := cellB hSw y2 zy; have y3 := cellB hSw y3 zy; have y4 := cellB hSw y4 zy; first | (go_simp; done) | (go_simp; with_reducible rfl) | (trace_state; fail)
        try simp only [Act.put, List.setIfInBounds_toArray, List.set_cons_zero, List.set_cons_succ]
        refine wpAnyH_take (i := 1) (oi := { dst := some 51, op := Op.fieldAddr 30 (Operand.tmp 3) 4, type := 0, pos := _, after := #[], guard := none }) (v := ?_) rfl (by kernel_rfl) (by kernel_rfl) (by kernel_rfl) (fun _ _ _ h => h) (Or.inl ⟨by rfl, ?_⟩) (by assumption) ?_
        rotate_left
        · intro wt hSw; (try dsimp only at hSw); have c0 := cellB hSw c0 z6; have c1 := cellB hSw c1 z6; have c2 := cellB hSw c2 z6; have c3 := cellB hSw c3 z6; have c4 := cellB hSw c4 z6; have c34 := cellB hSw c34 z3; have y0 := cellB hSw y0 zy; have y1 := cellB hSw y1 zy; have y2 := cellB hSw y2 zy; have y3 := cellB hSw y3 zy; have y4 := cellB hSw y4 zy; first | (go_simp; done) | (go_simp; with_reducible rfl) | (trace_state; fail)
        try simp only [Act.put, List.setIfInBounds_toArray, List.set_cons_zero, List.set_cons_succ]
        refine wpAnyH_take (i := 2) (oi := { dst := some 52, op := Op.load 28 (Operand.tmp 51), type := 28, pos := _, after := #[{ on := 1, ground := Ground.data }], guard := none }) (v := ?_) rfl (by kernel_rfl) (by kernel_rfl) (by kernel_rfl) (fun _ _ _ h => h) (Or.inl ⟨by rfl, ?_⟩) (by assumption) ?_
        rotate_left
        · intro wt hSw; (try dsimp only at hSw); have c0 := cellB hSw c0 z6; have c1 := cellB hSw c1 z6; have c2 := cellB hSw c2 z6; have c3 := cellB hSw c3 z6; have c4 := cellB hSw c4 z6; have c34 := cellB hSw c34 z3; have y0 := cellB hSw y0 zy; have y1 := cellB hSw y1 zy; have y2 := cellB hSw y2 zy; have y3 := cellB hSw y3 zy; have y4 := cellB hSw y4 zy; first | (go_simp; done) | (go_simp; with_reducible rfl) | (trace_state; fail)
        try simp only [Act.put, List.setIfInBounds_toArray, List.set_cons_zero, List.set_cons_succ]
        refine wpAnyH_take (i := 3) (oi := { dst := some 53, op := Op.move (Operand.tmp 5), type := 3, pos := _, after := #[], guard := none }) (v := ?_) rfl (by kernel_rfl) (by kernel_rfl) (by kernel_rfl) (fun _ _ _ h => h) (Or.inl ⟨by rfl, ?_⟩) (by assumption) ?_
        rotate_left
        · intro wt hSw; (try dsimp only at hSw); have c0 := cellB hSw c0 z6; have c1 := cellB hSw c1 z6; have c2 := cellB hSw c2 z6; have c3 := cellB hSw c3 z6; have c4 := cellB hSw c4 z6; have c34 := cellB hSw c34 z3; have y0 := cellB hSw y0 zy; have y1 := cellB hSw y1 zy; have y2 := cellB hSw y2 zy; have y3 := cellB hSw y3 zy; have y4 := cellB hSw y4 zy; first | (go_simp; done) | (go_simp; with_reducible rfl) | (trace_state; fail)
        try simp only [Act.put, List.setIfInBounds_toArray, List.set_cons_zero, List.set_cons_succ]
        refine wpAnyH_take (i := 4) (oi := { dst := some 54, op := Op.indexAddr 28 (Operand.tmp 52) (Operand.tmp 53), type := 0, pos := _, after := #[{ on := 2, ground := Ground.data }, { on := 3, ground := Ground.data }], guard := none }) (v := ?_) rfl (by kernel_rfl) (by kernel_rfl) (by kernel_rfl) (fun _ _ _ h => h) (Or.inl ⟨by rfl, ?_⟩) (by assumption) ?_
        rotate_left
        · intro wt hSw; (try dsimp only at hSw); have c0 := cellB hSw c0 z6; have c1 := cellB hSw c1 z6; have c2 := cellB hSw c2 z6; have c3 := cellB hSw c3 z6; have c4 := cellB hSw c4 z6; have c34 := cellB hSw c34 z3; have y0 := cellB hSw y0 zy; have y1 := cellB hSw y1 zy; have y2 := cellB hSw y2 zy; have y3 := cellB hSw y3 zy; have y4 := cellB hSw y4 zy; first | (go_simp; done) | (go_simp; with_reducible rfl) | (trace_state; fail)
        try simp only [Act.put, List.setIfInBounds_toArray, List.set_cons_zero, List.set_cons_succ]
        refine wpAnyH_take (i := 5) (oi := { dst := some 55, op := Op.load 30 (Operand.tmp 54), type := 30, pos := _, after := #[{ on := 4, ground := Ground.data }], guard := none }) (v := ?_) rfl (by kernel_rfl) (by kernel_rfl) (by kernel_rfl) (fun _ _ _ h => h) (Or.inl ⟨by rfl, ?_⟩) (by assumption) ?_
        rotate_left
        · intro wt hSw; (try dsimp only at hSw); have c0 := cellB hSw c0 z6; have c1 := cellB hSw c1 z6; have c2 := cellB hSw c2 z6; have c3 := cellB hSw c3 z6; have c4 := cellB hSw c4 z6; have c34 := cellB hSw c34 z3; have y0 := cellB hSw y0 zy; have y1 := cellB hSw y1 zy; have y2 := cellB hSw y2 zy; have y3 := cellB hSw y3 zy; have y4 := cellB hSw y4 zy; first | (go_simp; done) | (go_simp; with_reducible rfl) | (trace_state; fail)
        try simp only [Act.put, List.setIfInBounds_toArray, List.set_cons_zero, List.set_cons_succ]
        refine wpAnyH_ready (rs := [6]) (by kernel_rfl) (by simp) ?_
        refine AllReadyH.cons (o := { dst := some 56, op := Op.call { callee := Callee.value (Operand.func 18), args := #[Operand.tmp 50, Operand.tmp 55], argTypes := #[30, 30] }, type := 4, pos := _, after := #[{ on := 0, ground := Ground.data }, { on := 5, ground := Ground.data }], guard := none }) rfl (fun K hK => ?_) AllReadyH.nil
        go_simp
        refine (HC.out _ hHeld).mono ?_; rintro r w2 ⟨rfl, hb⟩; have hHeld := hHeld.trans (hb.mono hHeld.size)
        go_wp2_with fail
        refine hK.out _ _ ?_ (fun hHeld => ?_)
        · (try dsimp only); first | assumption | exact Below.alloc hHeld hHeld.size _ | exact (Below.refl _ _).drew | exact Below.drew (Below.refl _ _) | exact Below_drewN _ _ _ | exact Below.refl _ _ | (trace_state; fail)
        clear hK K
        try simp only [Act.put, List.setIfInBounds_toArray, List.set_cons_zero, List.set_cons_succ]
        refine wpAnyH_take (i := 7) (oi := { dst := some 57, op := Op.unOp UnOp.not 4 (Operand.tmp 56), type := 4, pos := _, after := #[{ on := 6, ground := Ground.data }], guard := none }) (v := ?_) rfl (by kernel_rfl) (by kernel_rfl) (by kernel_rfl) (fun _ _ _ h => h) (Or.inl ⟨by rfl, ?_⟩) (by assumption) ?_
        rotate_left
        · intro wt hSw; (try dsimp only at hSw); have c0 := cellB hSw c0 z6; have c1 := cellB hSw c1 z6; have c2 := cellB hSw c2 z6; have c3 := cellB hSw c3 z6; have c4 := cellB hSw c4 z6; have c34 := cellB hSw c34 z3; have y0 := cellB hSw y0 zy; have y1 := cellB hSw y1 zy; have y2 := cellB hSw y2 zy; have y3 := cellB hSw y3 zy; have y4 := cellB hSw y4 zy; first | (go_simp; done) | (go_simp; with_reducible rfl) | (trace_state; fail)
        try simp only [Act.put, List.setIfInBounds_toArray, List.set_cons_zero, List.set_cons_succ]
        refine wpAnyH_done (by kernel_rfl) ?_ _
        have HH := Lib.hid (HBr.out.trans ((HBX.out.trans (hHeld.mono HBX.out.size)).mono hsz))
        have HHw := Lib.hid (HBW.out.trans ((HBX.out.trans (hHeld.mono HBX.out.size)).mono HBW.out.size))
        clear hHeld
        cases B
        · have hno := Lib.hid (HNo.out k x y HXY.out.1 HXY.out.2 (fun e => by have := HBq.out; rw [sameE_yes e] at this; cases this))
          go_wp2_with fail
          go_ret
          exact ⟨by rw [hno.out]; rfl, HHw.out⟩
        · have hs := Lib.hid (show ∀ (i : Nat) (x y : Ex), i < k + 1 → l[i]? = some x → l2[i]? = some y → x = y from fun i x' y' hi hx' hy' => by
            rcases (show i < k ∨ i = k by omega) with h | rfl
            · exact hall.out i x' y' h hx' hy'
            · rw [HXY.out.1] at hx'; rw [HXY.out.2] at hy'
              rw [← Option.some.inj hx', ← Option.some.inj hy']
              exact sameE_eq HBq.out)
          go_wp2_with fail
          go_roundw
          case rel => exact ⟨k + 1, by have := HLT.out; omega, by simp, hs, HH⟩
          case measure => have := HLT.out; first | (simp [intOf]; done) | (simp [intOf]; omega)
      · obtain rfl : k = N := by omega
        have qk : ((k : Int) < (k : Int)) = False := eq_false (by omega)
        have qk' : (k < k) = False := eq_false (by omega)
        have hyes := Lib.hid (HY1.out (fun i x y hx hy => hall.out i x y (by rw [← HN.out]; exact lt_of_get hx) hx hy))
        have HBW := Lib.hid hBw
        clear hBw hall
        go_wp2_with fail
        go_ret
        exact ⟨by rw [hyes.out]; rfl, HBW.out⟩
set_option maxHeartbeats 2000000 in
theorem ref26_Same : ∀ a b w v u, ExV w v a → ExV w u b → Calls Tryd.prog 19 #[v, u] w fun r w' => r = .returned (.bool (sameE a b)) ∧ Below w.heap.size w w' := by
  intro a
  induction a using Ex.ind with
  | h op t n m l ih =>
    intro b w v u hv hu
    have HIH := Lib.hid (fun x (hx : x ∈ l) y W v u (hv : ExV W v x) (hu : ExV W u y) => ih x hx y W v u hv hu)
    obtain ⟨op2, t2, n2, m2, l2⟩ := b
    obtain ⟨s1, rfl, hr1, hrow1⟩ := hv
    obtain ⟨s2, rfl, hr2, hrow2⟩ := hu
    simp only at hrow1 hrow2 ⊢
    have hl1 := hrow1.len
    have hl2 := hrow2.len
    obtain ⟨sa, sc, rfl⟩ := row_get hrow1
    obtain ⟨sa2, sc2, rfl⟩ := row_get hrow2
    have HX := Lib.hid hrow1
    have HY := Lib.hid hrow2
    obtain ⟨N, hN⟩ : ∃ N, l.length = N := ⟨_, rfl⟩
    obtain ⟨N2, hN2⟩ : ∃ N, l2.length = N := ⟨_, rfl⟩
    have HN := Lib.hid hN
    have HN2 := Lib.hid hN2
    rw [hN] at HX hl1 ⊢
    rw [hN2] at HY hl2 ⊢
    clear ih hr1 hr2 hrow1 hrow2
    by_cases h0 : op = op2
    case neg =>
      have hno := Lib.hid (sameE_no (a := ⟨op, t, n, m, l⟩) (b := ⟨op2, t2, n2, m2, l2⟩) (fun h => h0 (congrArg Ex.op h)))
      have e0 : (op != op2) = true := by rw [bne_iff_ne]; exact h0
      rw [hno.out]
      clear h0 hN hN2 
      go_enter Tryd.func19, Tryd.ntmps19
      go_wp2_with fail
      go_ret
      exact ⟨rfl, by (repeat' (first | (with_reducible exact Below.refl _ _) | (with_reducible assumption) | (with_reducible refine below_drewN ?_ _) | (with_reducible refine Below.alloc ?_ ?_ _) | (with_reducible refine Below.drew ?_) | (with_reducible refine Below.setCell ?_ ?_ _) | go_size))⟩
    subst h0
    have e0 : (op != op) = false := by simp
    by_cases h1 : t = t2
    case neg =>
      have hno := Lib.hid (sameE_no (a := ⟨op, t, n, m, l⟩) (b := ⟨op, t2, n2, m2, l2⟩) (fun h => h1 (congrArg Ex.t h)))
      have e1 : (t != t2) = true := by rw [bne_iff_ne]; exact h1
      rw [hno.out]
      clear h1 hN hN2 
      go_enter Tryd.func19, Tryd.ntmps19
      go_wp2_with fail
      go_ret
      exact ⟨rfl, by (repeat' (first | (with_reducible exact Below.refl _ _) | (with_reducible assumption) | (with_reducible refine below_drewN ?_ _) | (with_reducible refine Below.alloc ?_ ?_ _) | (with_reducible refine Below.drew ?_) | (with_reducible refine Below.setCell ?_ ?_ _) | go_size))⟩
    subst h1
    have e1 : (t != t) = false := by simp
    by_cases h2 : n = n2
    case neg =>
      have hno := Lib.hid (sameE_no (a := ⟨op, t, n, m, l⟩) (b := ⟨op, t, n2, m2, l2⟩) (fun h => h2 (congrArg Ex.n h)))
      have e2 : (n != n2) = true := by rw [bne_iff_ne]; exact h2
      rw [hno.out]
      clear h2 hN hN2 
      go_enter Tryd.func19, Tryd.ntmps19
      go_wp2_with fail
      go_ret
      exact ⟨rfl, by (repeat' (first | (with_reducible exact Below.refl _ _) | (with_reducible assumption) | (with_reducible refine below_drewN ?_ _) | (with_reducible refine Below.alloc ?_ ?_ _) | (with_reducible refine Below.drew ?_) | (with_reducible refine Below.setCell ?_ ?_ _) | go_size))⟩
    subst h2
    have e2 : (n != n) = false := by simp
    by_cases h3 : m = m2
    case neg =>
      have hno := Lib.hid (sameE_no (a := ⟨op, t, n, m, l⟩) (b := ⟨op, t, n, m2, l2⟩) (fun h => h3 (congrArg Ex.m h)))
      have e3 : (m != m2) = true := by rw [bne_iff_ne]; exact h3
      rw [hno.out]
      clear h3 hN hN2 
      go_enter Tryd.func19, Tryd.ntmps19
      go_wp2_with fail
      go_ret
      exact ⟨rfl, by (repeat' (first | (with_reducible exact Below.refl _ _) | (with_reducible assumption) | (with_reducible refine below_drewN ?_ _) | (with_reducible refine Below.alloc ?_ ?_ _) | (with_reducible refine Below.drew ?_) | (with_reducible refine Below.setCell ?_ ?_ _) | go_size))⟩
    subst h3
    have e3 : (m != m) = false := by simp
    by_cases h4 : N = N2
    case neg =>
      have hno := Lib.hid (sameE_no (a := ⟨op, t, n, m, l⟩) (b := ⟨op, t, n, m, l2⟩) (fun h => h4 (by rw [← hN, ← hN2]; exact congrArg (fun e => e.l.length) h)))
      have e4 : ((N : Int) != (N2 : Int)) = true := by rw [bne_iff_ne]; omega
      rw [hno.out]
      clear h4 hN hN2
      go_enter Tryd.func19, Tryd.ntmps19
      go_wp2_with fail
      go_ret
      exact ⟨rfl, by (repeat' (first | (with_reducible exact Below.refl _ _) | (with_reducible assumption) | (with_reducible refine below_drewN ?_ _) | (with_reducible refine Below.alloc ?_ ?_ _) | (with_reducible refine Below.drew ?_) | (with_reducible refine Below.setCell ?_ ?_ _) | go_size))⟩
    subst h4
    have e4 : ((N : Int) != (N : Int)) = false := by simp
    have HY1 := Lib.hid (fun (h : ∀ (i : Nat) (x y : Ex), l[i]? = some x → l2[i]? = some y → x = y) => sameE_yes (show (⟨op, t, n, m, l⟩ : Ex) = ⟨op, t, n, m, l2⟩ from by rw [lists_eq (hN.trans hN2.symm) h]))
    have HNo := Lib.hid (fun (i : Nat) (x y : Ex) (hx : l[i]? = some x) (hy : l2[i]? = some y) (h : ¬ x = y) => sameE_no (a := ⟨op, t, n, m, l⟩) (b := ⟨op, t, n, m, l2⟩) (fun e => h (by
      have e' : l = l2 := congrArg Ex.l e
      rw [e', hy] at hx
      exact (Option.some.inj hx).symm)))
    obtain ⟨R, hR⟩ : ∃ R, sameE ⟨op, t, n, m, l⟩ ⟨op, t, n, m, l2⟩ = R := ⟨_, rfl⟩
    rw [hR] at HY1 HNo ⊢
    clear hN hN2 hR
    obtain ⟨W0, hW0⟩ : ∃ W0, W0 = (w.alloc (.cells #[.int .i64 op, .int .i64 t, .int .i64 n, .int .i64 m, .slice sa N sc] 30)).alloc (.cells #[.int .i64 op, .int .i64 t, .int .i64 n, .int .i64 m, .slice sa2 N sc2] 30) := ⟨_, rfl⟩
    have o0 : W0.heap[w.heap.size]? = some (.cells #[.int .i64 op, .int .i64 t, .int .i64 n, .int .i64 m, .slice sa N sc] 30) := by rw [hW0, get_past (by simp)]; exact get_last rfl
    have o1 : W0.heap[w.heap.size + 1]? = some (.cells #[.int .i64 op, .int .i64 t, .int .i64 n, .int .i64 m, .slice sa2 N sc2] 30) := by rw [hW0]; exact get_last (by simp)
    have hb0 : Below w.heap.size w W0 := by rw [hW0]; exact by (repeat' (first | (with_reducible exact Below.refl _ _) | (with_reducible assumption) | (with_reducible refine below_drewN ?_ _) | (with_reducible refine Below.alloc ?_ ?_ _) | (with_reducible refine Below.drew ?_) | (with_reducible refine Below.setCell ?_ ?_ _) | go_size))
    have hsz0 : W0.heap.size = w.heap.size + 1 + 1 := by rw [hW0]; simp
    have HW0 := Lib.hid hW0
    have HO0 := Lib.hid o0
    have HO1 := Lib.hid o1
    have HB0 := Lib.hid hb0
    clear hW0 o0 o1 hb0
    go_enter Tryd.func19, Tryd.ntmps19
    go_wp2_with fail
    rw [← HW0.out]
    go_loopw [5] (fun jj wr => ∃ k : Nat, k ≤ N ∧ jj = .int .i64 k ∧ Hid (∀ (i : Nat) (x y : Ex), i < k → l[i]? = some x → l2[i]? = some y → x = y) ∧ Hid (Below W0.heap.size W0 wr)) (fun jj _ => N - (intOf jj).toNat)
    case atStart => exact ⟨0, by omega, rfl, Lib.hid (fun i x y h => by omega), Lib.hid (Below.refl _ _)⟩
    case round =>
      obtain ⟨k, hk, rfl, hall, hB⟩ := hrel
      have hBw := HB0.out.trans (hB.out.mono (by omega))
      have p0 := obj_below HO0.out hB.out (by omega)
      have p1 := obj_below HO1.out hB.out (by omega)
      have z2 := heap_lt p0
      have z3 := heap_lt p1
      have c24 : wr.cell? ⟨w.heap.size, 4, none⟩ = some (.slice sa N sc) := obj_cell p0 (i := 4) rfl
      have c34 : wr.cell? ⟨w.heap.size + 1, 4, none⟩ = some (.slice sa2 N sc2) := obj_cell p1 (i := 4) rfl
      by_cases hlt : k < N
      · have qk : ((k : Int) < (N : Int)) = True := eq_true (by omega)
        have qk' : (k < N) = True := eq_true hlt
        obtain ⟨x, hx⟩ := get_some (L := l) (n := k) (by rw [HN.out]; exact hlt)
        obtain ⟨y, hy⟩ := get_some (L := l2) (n := k) (by rw [HN2.out]; exact hlt)
        obtain ⟨b, off, s1, sn1, sc1, rfl, hbw, hc1, hc2, d0, d1, d2, d3, d4, hxv⟩ := ex_at HX.out hx
        obtain ⟨b2, off2, s3, sn3, sc3, rfl, hbw2, hc3, hc4, y0, y1, y2, y3, y4, hyv⟩ := ex_at HY.out hy
        have hmem := List.mem_of_getElem? hx
        have d0 := (hBw.cell (p := ⟨b, off + k * 5, none⟩) hbw).trans d0
        have d1 := (hBw.cell (p := ⟨b, off + k * 5 + 1, none⟩) hbw).trans d1
        have d2 := (hBw.cell (p := ⟨b, off + k * 5 + 2, none⟩) hbw).trans d2
        have d3 := (hBw.cell (p := ⟨b, off + k * 5 + 3, none⟩) hbw).trans d3
        have d4 := (hBw.cell (p := ⟨b, off + k * 5 + 4, none⟩) hbw).trans d4
        have y0 := (hBw.cell (p := ⟨b2, off2 + k * 5, none⟩) hbw2).trans y0
        have y1 := (hBw.cell (p := ⟨b2, off2 + k * 5 + 1, none⟩) hbw2).trans y1
        have y2 := (hBw.cell (p := ⟨b2, off2 + k * 5 + 2, none⟩) hbw2).trans y2
        have y3 := (hBw.cell (p := ⟨b2, off2 + k * 5 + 3, none⟩) hbw2).trans y3
        have y4 := (hBw.cell (p := ⟨b2, off2 + k * 5 + 4, none⟩) hbw2).trans y4
        have zx : b < wr.heap.size := Nat.lt_of_lt_of_le hbw hBw.size
        have zy : b2 < wr.heap.size := Nat.lt_of_lt_of_le hbw2 hBw.size
        have hxw := hxv.below hBw
        have hyw := hyv.below hBw
        have hk63 : k ≤ 9223372036854775806 := by omega
        have HLT := Lib.hid hlt
        have HBr := Lib.hid hB.out
        have HBW := Lib.hid hBw
        have hsz := hB.out.size
        obtain ⟨WX, hWX⟩ : ∃ WX, WX = wr := ⟨_, rfl⟩
        have HC := Lib.hid (fun W (h : Below wr.heap.size wr W) => HIH.out x hmem y W _ _ (hxw.below h) (hyw.below h))
        have HBX := Lib.hid (show Below wr.heap.size wr wr from Below.refl _ _)
        clear hWX
        obtain ⟨B, hBq⟩ : ∃ B, sameE x y = B := ⟨_, rfl⟩
        rw [hBq] at HC
        have HBq := Lib.hid hBq
        have HXY := Lib.hid (And.intro hx hy)
        clear hxv hyv hxw hyw hmem hx hy hlt hBq hBw 
        generalize x.op = x0 at *
        generalize x.t = x1 at *
        generalize x.n = x2 at *
        generalize x.m = x3 at *
        generalize y.op = v0 at *
        generalize y.t = v1 at *
        generalize y.n = v2 at *
        generalize y.m = v3 at *
        go_upto_region 6 with fail
        refine wp_region_held_drew (S := (fun w' => Below wr.heap.size wr w')) (by kernel_rfl) ?_ (fun hHeld => ?_)
        · (try dsimp only); first | assumption | exact Below.alloc hHeld hHeld.size _ | exact (Below.refl _ _).drew | exact Below.drew (Below.refl _ _) | exact Below_drewN _ _ _ | exact Below.refl _ _ | (trace_state; fail)
        refine wpAnyH_take (i := 0) (oi := { dst := some 48, op := Op.fieldAddr 30 (Operand.tmp 2) 4, type := 0, pos := _, after := #[], guard := none }) (v := ?_) rfl (by kernel_rfl) (by kernel_rfl) (by kernel_rfl) (fun _ _ _ h => h) (Or.inl ⟨by rfl, ?_⟩) (by assumption) ?_
        rotate_left
        · intro wt hSw; (try dsimp only at hSw); have c24 := cellB hSw c24 z2; have d0 := cellB hSw d0 zx; have d1 := cellB hSw d1 zx; have d2 := cellB hSw d2 zx; have d3 := cellB hSw d3 zx; have d4 := cellB hSw d4 zx; have c34 := cellB hSw c34 z3; have y0 := cellB hSw y0 zy; have y1 := cellB hSw y1 zy; have y2 := cellB hSw y2 zy; have y3 := cellB hSw y3 zy; have y4 := cellB hSw y4 zy; first | (go_simp; done) | (go_simp; with_reducible rfl) | (trace_state; fail)
        try simp only [Act.put, List.setIfInBounds_toArray, List.set_cons_zero, List.set_cons_succ]
        refine wpAnyH_take (i := 1) (oi := { dst := some 49, op := Op.load 28 (Operand.tmp 48), type := 28, pos := _, after := #[{ on := 0, ground := Ground.data }], guard := none }) (v := ?_) rfl (by kernel_rfl) (by kernel_rfl) (by kernel_rfl) (fun _ _ _ h => h) (Or.inl ⟨by rfl, ?_⟩) (by assumption) ?_
        rotate_left
        · intro wt hSw; (try dsimp only at hSw); have c24 := cellB hSw c24 z2; have d0 := cellB hSw d0 zx; have d1 := cellB hSw d1 zx; have d2 := cellB hSw d2 zx; have d3 := cellB hSw d3 zx; have d4 := cellB hSw d4 zx; have c34 := cellB hSw c34 z3; have y0 := cellB hSw y0 zy; have y1 := cellB hSw y1 zy; have y2 := cellB hSw y2 zy; have y3 := cellB hSw y3 zy; have y4 := cellB hSw y4 zy; first | (go_simp; done) | (go_simp; with_reducible rfl) | (trace_state; fail)
        try simp only [Act.put, List.setIfInBounds_toArray, List.set_cons_zero, List.set_cons_succ]
        refine wpAnyH_take (i := 2) (oi := { dst := some 50, op := Op.move (Operand.tmp 5), type := 3, pos := _, after := #[], guard := none }) (v := ?_) rfl (by kernel_rfl) (by kernel_rfl) (by kernel_rfl) (fun _ _ _ h => h) (Or.inl ⟨by rfl, ?_⟩) (by assumption) ?_
        rotate_left
        · intro wt hSw; (try dsimp only at hSw); have c24 := cellB hSw c24 z2; have d0 := cellB hSw d0 zx; have d1 := cellB hSw d1 zx; have d2 := cellB hSw d2 zx; have d3 := cellB hSw d3 zx; have d4 := cellB hSw d4 zx; have c34 := cellB hSw c34 z3; have y0 := cellB hSw y0 zy; have y1 := cellB hSw y1 zy; have y2 := cellB hSw y2 zy; have y3 := cellB hSw y3 zy; have y4 := cellB hSw y4 zy; first | (go_simp; done) | (go_simp; with_reducible rfl) | (trace_state; fail)
        try simp only [Act.put, List.setIfInBounds_toArray, List.set_cons_zero, List.set_cons_succ]
        refine wpAnyH_take (i := 3) (oi := { dst := some 51, op := Op.indexAddr 28 (Operand.tmp 49) (Operand.tmp 50), type := 0, pos := _, after := #[{ on := 1, ground := Ground.data }, { on := 2, ground := Ground.data }], guard := none }) (v := ?_) rfl (by kernel_rfl) (by kernel_rfl) (by kernel_rfl) (fun _ _ _ h => h) (Or.inl ⟨by rfl, ?_⟩) (by assumption) ?_
        rotate_left
        · intro wt hSw; (try dsimp only at hSw); have c24 := cellB hSw c24 z2; have d0 := cellB hSw d0 zx; have d1 := cellB hSw d1 zx; have d2 := cellB hSw d2 zx; have d3 := cellB hSw d3 zx; have d4 := cellB hSw d4 zx; have c34 := cellB hSw c34 z3; have y0 := cellB hSw y0 zy; have y1 := cellB hSw y1 zy; have y2 := cellB hSw y2 zy; have y3 := cellB hSw y3 zy; have y4 := cellB hSw y4 zy; first | (go_simp; done) | (go_simp; with_reducible rfl) | (trace_state; fail)
        try simp only [Act.put, List.setIfInBounds_toArray, List.set_cons_zero, List.set_cons_succ]
        refine wpAnyH_take (i := 4) (oi := { dst := some 52, op := Op.load 30 (Operand.tmp 51), type := 30, pos := _, after := #[{ on := 3, ground := Ground.data }], guard := none }) (v := ?_) rfl (by kernel_rfl) (by kernel_rfl) (by kernel_rfl) (fun _ _ _ h => h) (Or.inl ⟨by rfl, ?_⟩) (by assumption) ?_
        rotate_left
        · intro wt hSw; (try dsimp only at hSw); have c24 := cellB hSw c24 z2; have d0 := cellB hSw d0 zx; have d1 := cellB hSw d1 zx; have d2 := cellB hSw d2 zx; have d3 := cellB hSw d3 zx; have d4 := cellB hSw d4 zx; have c34 := cellB hSw c34 z3; have y0 := cellB hSw y0 zy; have y1 := cellB hSw y1 zy; have y2 := cellB hSw y2 zy; have y3 := cellB hSw y3 zy; have y4 := cellB hSw y4 zy; first | (go_simp; done) | (go_simp; with_reducible rfl) | (trace_state; fail)
        try simp only [Act.put, List.setIfInBounds_toArray, List.set_cons_zero, List.set_cons_succ]
        refine wpAnyH_take (i := 5) (oi := { dst := some 53, op := Op.fieldAddr 30 (Operand.tmp 3) 4, type := 0, pos := _, after := #[], guard := none }) (v := ?_) rfl (by kernel_rfl) (by kernel_rfl) (by kernel_rfl) (fun _ _ _ h => h) (Or.inl ⟨by rfl, ?_⟩) (by assumption) ?_
        rotate_left
        · intro wt hSw; (try dsimp only at hSw); have c24 := cellB hSw c24 z2; have d0 := cellB hSw d0 zx; have d1 := cellB hSw d1 zx; have d2 := cellB hSw d2 zx; have d3 := cellB hSw d3 zx; have d4 := cellB hSw d4 zx; have c34 := cellB hSw c34 z3; have y0 := cellB hSw y0 zy; have y1 := cellB hSw y1 zy; have y2 := cellB hSw y2 zy; have y3 := cellB hSw y3 zy; have y4 := cellB hSw y4 zy; first | (go_simp; done) | (go_simp; with_reducible rfl) | (trace_state; fail)
        try simp only [Act.put, List.setIfInBounds_toArray, List.set_cons_zero, List.set_cons_succ]
        refine wpAnyH_take (i := 6) (oi := { dst := some 54, op := Op.load 28 (Operand.tmp 53), type := 28, pos := _, after := #[{ on := 5, ground := Ground.data }], guard := none }) (v := ?_) rfl (by kernel_rfl) (by kernel_rfl) (by kernel_rfl) (fun _ _ _ h => h) (Or.inl ⟨by rfl, ?_⟩) (by assumption) ?_
        rotate_left
        · intro wt hSw; (try dsimp only at hSw); have c24 := cellB hSw c24 z2; have d0 := cellB hSw d0 zx; have d1 := cellB hSw d1 zx; have d2 := cellB hSw d2 zx; have d3 := cellB hSw d3 zx; have d4 := cellB hSw d4 zx; have c34 := cellB hSw c34 z3; have y0 := cellB hSw y0 zy; have y1 := cellB hSw y1 zy; have y2 := cellB hSw y2 zy; have y3 := cellB hSw y3 zy; have y4 := cellB hSw y4 zy; first | (go_simp; done) | (go_simp; with_reducible rfl) | (trace_state; fail)
        try simp only [Act.put, List.setIfInBounds_toArray, List.set_cons_zero, List.set_cons_succ]
        refine wpAnyH_take (i := 7) (oi := { dst := some 55, op := Op.move (Operand.tmp 5), type := 3, pos := _, after := #[], guard := none }) (v := ?_) rfl (by kernel_rfl) (by kernel_rfl) (by kernel_rfl) (fun _ _ _ h => h) (Or.inl ⟨by rfl, ?_⟩) (by assumption) ?_
        rotate_left
        · intro wt hSw; (try dsimp only at hSw); have c24 := cellB hSw c24 z2; have d0 := cellB hSw d0 zx; have d1 := cellB hSw d1 zx; have d2 := cellB hSw d2 zx; have d3 := cellB hSw d3 zx; have d4 := cellB hSw d4 zx; have c34 := cellB hSw c34 z3; have y0 := cellB hSw y0 zy; have y1 := cellB hSw y1 zy; have y2 := cellB hSw y2 zy; have y3 := cellB hSw y3 zy; have y4 := cellB hSw y4 zy; first | (go_simp; done) | (go_simp; with_reducible rfl) | (trace_state; fail)
        try simp only [Act.put, List.setIfInBounds_toArray, List.set_cons_zero, List.set_cons_succ]
        refine wpAnyH_take (i := 8) (oi := { dst := some 56, op := Op.indexAddr 28 (Operand.tmp 54) (Operand.tmp 55), type := 0, pos := _, after := #[{ on := 6, ground := Ground.data }, { on := 7, ground := Ground.data }], guard := none }) (v := ?_) rfl (by kernel_rfl) (by kernel_rfl) (by kernel_rfl) (fun _ _ _ h => h) (Or.inl ⟨by rfl, ?_⟩) (by assumption) ?_
        rotate_left
        · intro wt hSw; (try dsimp only at hSw); have c24 := cellB hSw c24 z2; have d0 := cellB hSw d0 zx; have d1 := cellB hSw d1 zx; have d2 := cellB hSw d2 zx; have d3 := cellB hSw d3 zx; have d4 := cellB hSw d4 zx; have c34 := cellB hSw c34 z3; have y0 := cellB hSw y0 zy; have y1 := cellB hSw y1 zy; have y2 := cellB hSw y2 zy; have y3 := cellB hSw y3 zy; have y4 := cellB hSw y4 zy; first | (go_simp; done) | (go_simp; with_reducible rfl) | (trace_state; fail)
        try simp only [Act.put, List.setIfInBounds_toArray, List.set_cons_zero, List.set_cons_succ]
        refine wpAnyH_take (i := 9) (oi := { dst := some 57, op := Op.load 30 (Operand.tmp 56), type := 30, pos := _, after := #[{ on := 8, ground := Ground.data }], guard := none }) (v := ?_) rfl (by kernel_rfl) (by kernel_rfl) (by kernel_rfl) (fun _ _ _ h => h) (Or.inl ⟨by rfl, ?_⟩) (by assumption) ?_
        rotate_left
        · intro wt hSw; (try dsimp only at hSw); have c24 := cellB hSw c24 z2; have d0 := cellB hSw d0 zx; have d1 := cellB hSw d1 zx; have d2 := cellB hSw d2 zx; have d3 := cellB hSw d3 zx; have d4 := cellB hSw d4 zx; have c34 := cellB hSw c34 z3; have y0 := cellB hSw y0 zy; have y1 := cellB hSw y1 zy; have y2 := cellB hSw y2 zy; have y3 := cellB hSw y3 zy; have y4 := cellB hSw y4 zy; first | (go_simp; done) | (go_simp; with_reducible rfl) | (trace_state; fail)
        try simp only [Act.put, List.setIfInBounds_toArray, List.set_cons_zero, List.set_cons_succ]
        refine wpAnyH_ready (rs := [10]) (by kernel_rfl) (by simp) ?_
        refine AllReadyH.cons (o := { dst := some 58, op := Op.call { callee := Callee.value (Operand.func 19), args := #[Operand.tmp 52, Operand.tmp 57], argTypes := #[30, 30] }, type := 4, pos := _, after := #[{ on := 4, ground := Ground.data }, { on := 9, ground := Ground.data }], guard := none }) rfl (fun K hK => ?_) AllReadyH.nil
        go_simp
        refine (HC.out _ hHeld).mono ?_; rintro r w2 ⟨rfl, hb⟩; have hHeld := hHeld.trans (hb.mono hHeld.size)
        go_wp2_with fail
        refine hK.out _ _ ?_ (fun hHeld => ?_)
        · (try dsimp only); first | assumption | exact Below.alloc hHeld hHeld.size _ | exact (Below.refl _ _).drew | exact Below.drew (Below.refl _ _) | exact Below_drewN _ _ _ | exact Below.refl _ _ | (trace_state; fail)
        clear hK K
        try simp only [Act.put, List.setIfInBounds_toArray, List.set_cons_zero, List.set_cons_succ]
        refine wpAnyH_take (i := 11) (oi := { dst := some 59, op := Op.unOp UnOp.not 4 (Operand.tmp 58), type := 4, pos := _, after := #[{ on := 10, ground := Ground.data }], guard := none }) (v := ?_) rfl (by kernel_rfl) (by kernel_rfl) (by kernel_rfl) (fun _ _ _ h => h) (Or.inl ⟨by rfl, ?_⟩) (by assumption) ?_
        rotate_left
        · intro wt hSw; (try dsimp only at hSw); have c24 := cellB hSw c24 z2; have d0 := cellB hSw d0 zx; have d1 := cellB hSw d1 zx; have d2 := cellB hSw d2 zx; have d3 := cellB hSw d3 zx; have d4 := cellB hSw d4 zx; have c34 := cellB hSw c34 z3; have y0 := cellB hSw y0 zy; have y1 := cellB hSw y1 zy; have y2 := cellB hSw y2 zy; have y3 := cellB hSw y3 zy; have y4 := cellB hSw y4 zy; first | (go_simp; done) | (go_simp; with_reducible rfl) | (trace_state; fail)
        try simp only [Act.put, List.setIfInBounds_toArray, List.set_cons_zero, List.set_cons_succ]
        refine wpAnyH_done (by kernel_rfl) ?_ _
        have HH := Lib.hid (HBr.out.trans ((HBX.out.trans (hHeld.mono HBX.out.size)).mono hsz))
        have HHw := Lib.hid (HBW.out.trans ((HBX.out.trans (hHeld.mono HBX.out.size)).mono HBW.out.size))
        clear hHeld
        cases B
        · have hno := Lib.hid (HNo.out k x y HXY.out.1 HXY.out.2 (fun e => by have := HBq.out; rw [sameE_yes e] at this; cases this))
          go_wp2_with fail
          go_ret
          exact ⟨by rw [hno.out]; rfl, HHw.out⟩
        · have hs := Lib.hid (show ∀ (i : Nat) (x y : Ex), i < k + 1 → l[i]? = some x → l2[i]? = some y → x = y from fun i x' y' hi hx' hy' => by
            rcases (show i < k ∨ i = k by omega) with h | rfl
            · exact hall.out i x' y' h hx' hy'
            · rw [HXY.out.1] at hx'; rw [HXY.out.2] at hy'
              rw [← Option.some.inj hx', ← Option.some.inj hy']
              exact sameE_eq HBq.out)
          go_wp2_with fail
          go_roundw
          case rel => exact ⟨k + 1, by have := HLT.out; omega, by simp, hs, HH⟩
          case measure => have := HLT.out; first | (simp [intOf]; done) | (simp [intOf]; omega)
      · obtain rfl : k = N := by omega
        have qk : ((k : Int) < (k : Int)) = False := eq_false (by omega)
        have qk' : (k < k) = False := eq_false (by omega)
        have hyes := Lib.hid (HY1.out (fun i x y hx hy => hall.out i x y (by rw [← HN.out]; exact lt_of_get hx) hx hy))
        have HBW := Lib.hid hBw
        clear hBw hall
        go_wp2_with fail
        go_ret
        exact ⟨by rw [hyes.out]; rfl, HBW.out⟩
end Go.Proofs.YtpecpeedefeokaaDoor
