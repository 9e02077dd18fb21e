/- Layer 23: the law StateWrites' walk. -/
import Derived.Test.YthanmbfelihkfaaLawTwentythree
namespace Go.Proofs.Ythanmbfelihkfaa
open Go.RowKit
set_option linter.unusedSimpArgs false
set_option linter.unusedVariables false
def C2 (W : World) (g : Nat) (x y : Value) : Prop := W.cell? ⟨g, 0, none⟩ = some x ∧ W.cell? ⟨g, 1, none⟩ = some y
theorem C2.keep {W W' : World} {g : Nat} {x y : Value} (c : C2 W g x y) (hb : g < W.heap.size) (h : Below W.heap.size W W') : C2 W' g x y :=
  ⟨(h.cell (p := ⟨g, 0, none⟩) hb).trans c.1, (h.cell (p := ⟨g, 1, none⟩) hb).trans c.2⟩
set_option maxHeartbeats 8000000 in
theorem stateWrites_walk (v b : Value) (s : St) (i k x : Int) (hx : I64 x) (w : World) (h : StAt w v b s) :
    Calls Try.prog 4 #[.agg #[v, b, .int .i64 s.now, .int .i64 s.fault], .agg #[.int .i64 i, .int .i64 k], .int .i64 x] w fun e w' => e = .returned (.bool true) ∧ Below w.heap.size w w' := by
  obtain ⟨sa, ca, rfl⟩ := row_get h.vs
  have cp := @cell_past
  have hSh := fun W (hb : Below w.heap.size w W) => law23_Short _ b s W (h.below hb)
  have hAw := law23_awake
  cases hsh : shortS s
  · rw [hsh] at hSh
    go_enter Try.func4, Try.ntmps4
    go_wp2_with fail
    refine (hSh _ (by (repeat' (first | (with_reducible exact Below.refl _ _) | (with_reducible assumption) | (with_reducible refine below_drewN ?_ _) | (with_reducible refine Below.alloc ?_ ?_ _) | (with_reducible refine Below.drew ?_) | (with_reducible refine Below.setCell ?_ ?_ _) | go_size)))).mono ?_; rintro e A1 ⟨rfl, hb1⟩
    have hB1 : Below w.heap.size w A1 := Below.trans (by (repeat' (first | (with_reducible exact Below.refl _ _) | (with_reducible assumption) | (with_reducible refine below_drewN ?_ _) | (with_reducible refine Below.alloc ?_ ?_ _) | (with_reducible refine Below.drew ?_) | (with_reducible refine Below.setCell ?_ ?_ _) | go_size))) (hb1.mono (by simp; omega))
    go_wp2_with fail
    refine (hAw _).mono ?_; rintro e A2 ⟨rfl, hb2⟩
    have hB2 := hB1.trans (hb2.mono hB1.size)
    go_wp2_with fail
    go_ret
    exact ⟨rfl, hB2⟩
  rw [hsh] at hSh
  have hRC := fun W (hb : Below w.heap.size w W) => ref23_Clone _ b s W (h.below hb) hsh
  have hWr := fun W (hb : Below w.heap.size w W) => state_Write _ b s i k x hx W (h.below hb) hsh
  have hRd := fun W (hb : Below w.heap.size w W) => state_Read _ b s i k W (h.below hb)
  have hvl := h.vs.len
  go_enter Try.func4, Try.ntmps4
  go_wp2_with fail
  refine (hSh _ (by (repeat' (first | (with_reducible exact Below.refl _ _) | (with_reducible assumption) | (with_reducible refine below_drewN ?_ _) | (with_reducible refine Below.alloc ?_ ?_ _) | (with_reducible refine Below.drew ?_) | (with_reducible refine Below.setCell ?_ ?_ _) | go_size)))).mono ?_; rintro e A1 ⟨rfl, hb1⟩
  have hb1' : Below (w.heap.size + 1 + 1) ((w.alloc (.cells #[.slice sa s.vars.length ca, b, .int .i64 s.now, .int .i64 s.fault] 31)).alloc (.cells #[.int .i64 i, .int .i64 k] 41)) A1 := by simpa using hb1
  have hB1 : Below w.heap.size w A1 := Below.trans (by (repeat' (first | (with_reducible exact Below.refl _ _) | (with_reducible assumption) | (with_reducible refine below_drewN ?_ _) | (with_reducible refine Below.alloc ?_ ?_ _) | (with_reducible refine Below.drew ?_) | (with_reducible refine Below.setCell ?_ ?_ _) | go_size))) (hb1'.mono (by omega))
  have z1 : w.heap.size + 1 < A1.heap.size := by have := hb1'.size; simp at this; omega
  have z1b : w.heap.size < A1.heap.size := by omega
  have f1 : C4 A1 w.heap.size (.slice sa s.vars.length ca) b (.int .i64 s.now) (.int .i64 s.fault) := C4.new w _ _ _ _ _ (Below.trans (by (repeat' (first | (with_reducible exact Below.refl _ _) | (with_reducible assumption) | (with_reducible refine below_drewN ?_ _) | (with_reducible refine Below.alloc ?_ ?_ _) | (with_reducible refine Below.drew ?_) | (with_reducible refine Below.setCell ?_ ?_ _) | go_size))) (hb1'.mono (by omega)))
  have g1 : C2 A1 (w.heap.size + 1) (.int .i64 i) (.int .i64 k) := ⟨(hb1'.cell (p := ⟨w.heap.size + 1, 0, none⟩) (by show w.heap.size + 1 < _; omega)).trans (by rw [cell_at (by simp)]; rfl), (hb1'.cell (p := ⟨w.heap.size + 1, 1, none⟩) (by show w.heap.size + 1 < _; omega)).trans (by rw [cell_at (by simp)]; rfl)⟩
  clear hb1 hb1' hSh
  obtain ⟨e0, e1, e2, e3⟩ := id f1
  go_wp2_with fail
  refine (hRC _ hB1).mono ?_; rintro e A2 ⟨vw, bw, rfl, hWas, hb2⟩
  have hB2 := hB1.trans (hb2.mono hB1.size)
  have f2 := f1.keep z1b hb2
  have g2 := g1.keep z1 hb2
  have z2 : w.heap.size + 1 < A2.heap.size := Nat.lt_of_lt_of_le z1 hb2.size
  have z2b : w.heap.size < A2.heap.size := by omega
  obtain ⟨sw1, sw2, rfl⟩ := row_get hWas.vs
  obtain ⟨bw1, bw2, rfl⟩ := row_get hWas.bs
  clear hb2 f1 g1 z1 z1b e0 e1 e2 e3 hRC
  obtain ⟨e0, e1, e2, e3⟩ := id f2
  obtain ⟨p0, p1⟩ := id g2
  generalize hNw : s.vars.length = Nw at *
  generalize hBw : s.blocks.length = Bw at *
  go_wp2_with fail
  go_quiet (fail)
  go_wp2_with fail
  refine (hWr _ (by (repeat' (first | (with_reducible exact Below.refl _ _) | (with_reducible assumption) | (with_reducible refine more_below ?_ ?_ _ _) | (with_reducible refine below_drewN ?_ _) | (with_reducible refine Below.alloc ?_ ?_ _) | (with_reducible refine Below.drew ?_) | (with_reducible refine Below.setCell ?_ ?_ _) | (simp only [World.size_alloc, World.size_setCell, World.size_drew, more_size, World.heap_drewN]; omega) | go_size)))).mono ?_; rintro e A3 ⟨vt, bt, rfl, hT, hb3⟩
  have hb3' : Below (A2.heap.size + 1) (A2.alloc (.cells #[.slice sw1 Nw sw2, .slice bw1 Bw bw2, .int .i64 s.now, .int .i64 s.fault] 31)) A3 := Below.trans (below_drewN (Below.refl _ _) _) (by simpa using hb3)
  have hb23 : Below A2.heap.size A2 A3 := Below.trans (by (repeat' (first | (with_reducible exact Below.refl _ _) | (with_reducible assumption) | (with_reducible refine below_drewN ?_ _) | (with_reducible refine Below.alloc ?_ ?_ _) | (with_reducible refine Below.drew ?_) | (with_reducible refine Below.setCell ?_ ?_ _) | go_size))) (hb3'.mono (by omega))
  have f7 := C4.new A2 _ _ _ _ _ hb3'
  have f3 := f2.keep z2b hb23
  have hB3 := hB2.trans (hb23.mono hB2.size)
  have z3 : A2.heap.size < A3.heap.size := by have := hb3'.size; simp at this; omega
  have z3b : w.heap.size < A3.heap.size := by omega
  clear hb3 hb3' f2 g2 z2 e0 e1 e2 e3 p0 p1 hWr
  obtain ⟨e0, e1, e2, e3⟩ := id f3
  obtain ⟨w0, w1, w2, w3⟩ := id f7
  obtain ⟨ta, tc, rfl⟩ := row_get hT.vs
  obtain ⟨ua, uc, rfl⟩ := row_get hT.bs
  generalize htn : (writeS s i k x).vars.length = tn at *
  generalize hun : (writeS s i k x).blocks.length = un at *
  cases hh : hasS s i k
  · have hw := writeS_no hh x
    have hr0 := readS_no hh
    rw [hw] at hT
    rw [hh, hr0] at hRd
    have hv3 := h.vs.below intsR_stable hB3
    have HD : hasS s i k = decide (0 ≤ i ∧ i < s.vars.length ∧ 0 ≤ k ∧ k < (rowS s i).length) := rfl
    rw [hh] at HD
    have HD2 := of_decide_eq_false HD.symm
    rw [hNw] at HD2
    clear HD hw hr0 htn hun
    by_cases h1 : 0 ≤ i
    · by_cases h2 : i < Nw
      · obtain ⟨n, rfl⟩ := Int.eq_ofNat_of_zero_le h1
        obtain ⟨bk, off, rfl, hbw, hc⟩ := rows_at hv3 (k := n) (by omega)
        obtain ⟨l, hx'⟩ : ∃ l, s.vars[n]? = some l := ⟨s.vars[n]'(by omega), by simp [show n < s.vars.length by omega]⟩
        obtain ⟨u, c0, hu⟩ := hc n l hx'
        have hll := hu.len
        obtain ⟨su, cu, rfl⟩ := row_get hu
        have hl : rowS s n = l := by unfold rowS; simp [List.getD, hx']
        rw [hl] at HD2
        generalize l.length = nl at *
        have q1 : ((n : Int) < Nw) = True := eq_true h2
        have q0 : (0 ≤ (n : Int)) = True := eq_true h1
        clear hc hx' hu hl hv3
        by_cases h3 : 0 ≤ k
        · have q3 : (0 ≤ k) = True := eq_true h3
          have q4 : (k < (nl : Int)) = False := eq_false (fun h4 => HD2 ⟨h1, h2, h3, h4⟩)
          clear HD2
          go_wp2_with fail
          refine (ref23_Same_eq _ _ _ _ s _ (h.below (by (repeat' (first | (with_reducible exact Below.refl _ _) | (with_reducible assumption) | (with_reducible refine more_below ?_ ?_ _ _) | (with_reducible refine below_drewN ?_ _) | (with_reducible refine Below.alloc ?_ ?_ _) | (with_reducible refine Below.drew ?_) | (with_reducible refine Below.setCell ?_ ?_ _) | (simp only [World.size_alloc, World.size_setCell, World.size_drew, more_size, World.heap_drewN]; omega) | go_size)))) (hWas.below (by (repeat' (first | (with_reducible exact Below.refl _ _) | (with_reducible assumption) | (with_reducible refine more_below ?_ ?_ _ _) | (with_reducible refine below_drewN ?_ _) | (with_reducible refine Below.alloc ?_ ?_ _) | (with_reducible refine Below.drew ?_) | (with_reducible refine Below.setCell ?_ ?_ _) | (simp only [World.size_alloc, World.size_setCell, World.size_drew, more_size, World.heap_drewN]; omega) | go_size))))).mono ?_; rintro e A4 ⟨rfl, hb4⟩
          have hb4' : Below (A3.heap.size + 1) (A3.alloc (.cells #[.slice ta tn tc, .slice ua un uc, .int .i64 s.now, .int .i64 s.fault] 31)) A4 := by simpa using hb4
          have hb34 : Below A3.heap.size A3 A4 := Below.trans (by (repeat' (first | (with_reducible exact Below.refl _ _) | (with_reducible assumption) | (with_reducible refine below_drewN ?_ _) | (with_reducible refine Below.alloc ?_ ?_ _) | (with_reducible refine Below.drew ?_) | (with_reducible refine Below.setCell ?_ ?_ _) | go_size))) (hb4'.mono (by omega))
          have f10 := C4.new A3 _ _ _ _ _ hb4'
          have f4 := C4.keep ⟨e0, e1, e2, e3⟩ z3b hb34
          have hB4 := hB3.trans (hb34.mono hB3.size)
          have z4 : A3.heap.size < A4.heap.size := by have := hb4'.size; simp at this; omega
          have z4b : w.heap.size < A4.heap.size := by omega
          clear hb4 hb4' e0 e1 e2 e3
          obtain ⟨e0, e1, e2, e3⟩ := id f4
          go_wp2_with fail
          refine (hRd _ hB4).mono ?_; rintro e A5 ⟨rfl, hb5⟩
          have f5 := f4.keep z4b hb5
          have f10 := f10.keep z4 hb5
          have hB5 := hB4.trans (hb5.mono hB4.size)
          have hb35 := hb34.trans (hb5.mono hb34.size)
          clear e0 e1 e2 e3 f4
          obtain ⟨e0, e1, e2, e3⟩ := id f5
          obtain ⟨t0, t1, t2, t3⟩ := id f10
          go_wp2_with fail
          refine (ref23_Same_eq _ _ _ _ s _ (hT.below hb35) (h.below hB5)).mono ?_; rintro e A6 ⟨rfl, hb6⟩
          have hB6 := hB5.trans (hb6.mono hB5.size)
          go_wp2_with fail
          refine (hAw _).mono ?_; rintro e A7 ⟨rfl, hb7⟩
          have hB7 := hB6.trans (hb7.mono hB6.size)
          go_wp2_with fail
          go_ret
          exact ⟨rfl, hB7⟩
        · have q3 : (0 ≤ k) = False := eq_false h3
          clear HD2
          go_wp2_with fail
          refine (ref23_Same_eq _ _ _ _ s _ (h.below (by (repeat' (first | (with_reducible exact Below.refl _ _) | (with_reducible assumption) | (with_reducible refine more_below ?_ ?_ _ _) | (with_reducible refine below_drewN ?_ _) | (with_reducible refine Below.alloc ?_ ?_ _) | (with_reducible refine Below.drew ?_) | (with_reducible refine Below.setCell ?_ ?_ _) | (simp only [World.size_alloc, World.size_setCell, World.size_drew, more_size, World.heap_drewN]; omega) | go_size)))) (hWas.below (by (repeat' (first | (with_reducible exact Below.refl _ _) | (with_reducible assumption) | (with_reducible refine more_below ?_ ?_ _ _) | (with_reducible refine below_drewN ?_ _) | (with_reducible refine Below.alloc ?_ ?_ _) | (with_reducible refine Below.drew ?_) | (with_reducible refine Below.setCell ?_ ?_ _) | (simp only [World.size_alloc, World.size_setCell, World.size_drew, more_size, World.heap_drewN]; omega) | go_size))))).mono ?_; rintro e A4 ⟨rfl, hb4⟩
          have hb4' : Below (A3.heap.size + 1) (A3.alloc (.cells #[.slice ta tn tc, .slice ua un uc, .int .i64 s.now, .int .i64 s.fault] 31)) A4 := by simpa using hb4
          have hb34 : Below A3.heap.size A3 A4 := Below.trans (by (repeat' (first | (with_reducible exact Below.refl _ _) | (with_reducible assumption) | (with_reducible refine below_drewN ?_ _) | (with_reducible refine Below.alloc ?_ ?_ _) | (with_reducible refine Below.drew ?_) | (with_reducible refine Below.setCell ?_ ?_ _) | go_size))) (hb4'.mono (by omega))
          have f10 := C4.new A3 _ _ _ _ _ hb4'
          have f4 := C4.keep ⟨e0, e1, e2, e3⟩ z3b hb34
          have hB4 := hB3.trans (hb34.mono hB3.size)
          have z4 : A3.heap.size < A4.heap.size := by have := hb4'.size; simp at this; omega
          have z4b : w.heap.size < A4.heap.size := by omega
          clear hb4 hb4' e0 e1 e2 e3
          obtain ⟨e0, e1, e2, e3⟩ := id f4
          go_wp2_with fail
          refine (hRd _ hB4).mono ?_; rintro e A5 ⟨rfl, hb5⟩
          have f5 := f4.keep z4b hb5
          have f10 := f10.keep z4 hb5
          have hB5 := hB4.trans (hb5.mono hB4.size)
          have hb35 := hb34.trans (hb5.mono hb34.size)
          clear e0 e1 e2 e3 f4
          obtain ⟨e0, e1, e2, e3⟩ := id f5
          obtain ⟨t0, t1, t2, t3⟩ := id f10
          go_wp2_with fail
          refine (ref23_Same_eq _ _ _ _ s _ (hT.below hb35) (h.below hB5)).mono ?_; rintro e A6 ⟨rfl, hb6⟩
          have hB6 := hB5.trans (hb6.mono hB5.size)
          go_wp2_with fail
          refine (hAw _).mono ?_; rintro e A7 ⟨rfl, hb7⟩
          have hB7 := hB6.trans (hb7.mono hB6.size)
          go_wp2_with fail
          go_ret
          exact ⟨rfl, hB7⟩
      · have q0 : (0 ≤ i) = True := eq_true h1
        have q1 : (i < (Nw : Int)) = False := eq_false h2
        clear HD2 hv3
        go_wp2_with fail
        refine (ref23_Same_eq _ _ _ _ s _ (h.below (by (repeat' (first | (with_reducible exact Below.refl _ _) | (with_reducible assumption) | (with_reducible refine more_below ?_ ?_ _ _) | (with_reducible refine below_drewN ?_ _) | (with_reducible refine Below.alloc ?_ ?_ _) | (with_reducible refine Below.drew ?_) | (with_reducible refine Below.setCell ?_ ?_ _) | (simp only [World.size_alloc, World.size_setCell, World.size_drew, more_size, World.heap_drewN]; omega) | go_size)))) (hWas.below (by (repeat' (first | (with_reducible exact Below.refl _ _) | (with_reducible assumption) | (with_reducible refine more_below ?_ ?_ _ _) | (with_reducible refine below_drewN ?_ _) | (with_reducible refine Below.alloc ?_ ?_ _) | (with_reducible refine Below.drew ?_) | (with_reducible refine Below.setCell ?_ ?_ _) | (simp only [World.size_alloc, World.size_setCell, World.size_drew, more_size, World.heap_drewN]; omega) | go_size))))).mono ?_; rintro e A4 ⟨rfl, hb4⟩
        have hb4' : Below (A3.heap.size + 1) (A3.alloc (.cells #[.slice ta tn tc, .slice ua un uc, .int .i64 s.now, .int .i64 s.fault] 31)) A4 := by simpa using hb4
        have hb34 : Below A3.heap.size A3 A4 := Below.trans (by (repeat' (first | (with_reducible exact Below.refl _ _) | (with_reducible assumption) | (with_reducible refine below_drewN ?_ _) | (with_reducible refine Below.alloc ?_ ?_ _) | (with_reducible refine Below.drew ?_) | (with_reducible refine Below.setCell ?_ ?_ _) | go_size))) (hb4'.mono (by omega))
        have f10 := C4.new A3 _ _ _ _ _ hb4'
        have f4 := C4.keep ⟨e0, e1, e2, e3⟩ z3b hb34
        have hB4 := hB3.trans (hb34.mono hB3.size)
        have z4 : A3.heap.size < A4.heap.size := by have := hb4'.size; simp at this; omega
        have z4b : w.heap.size < A4.heap.size := by omega
        clear hb4 hb4' e0 e1 e2 e3
        obtain ⟨e0, e1, e2, e3⟩ := id f4
        go_wp2_with fail
        refine (hRd _ hB4).mono ?_; rintro e A5 ⟨rfl, hb5⟩
        have f5 := f4.keep z4b hb5
        have f10 := f10.keep z4 hb5
        have hB5 := hB4.trans (hb5.mono hB4.size)
        have hb35 := hb34.trans (hb5.mono hb34.size)
        clear e0 e1 e2 e3 f4
        obtain ⟨e0, e1, e2, e3⟩ := id f5
        obtain ⟨t0, t1, t2, t3⟩ := id f10
        go_wp2_with fail
        refine (ref23_Same_eq _ _ _ _ s _ (hT.below hb35) (h.below hB5)).mono ?_; rintro e A6 ⟨rfl, hb6⟩
        have hB6 := hB5.trans (hb6.mono hB5.size)
        go_wp2_with fail
        refine (hAw _).mono ?_; rintro e A7 ⟨rfl, hb7⟩
        have hB7 := hB6.trans (hb7.mono hB6.size)
        go_wp2_with fail
        go_ret
        exact ⟨rfl, hB7⟩
    · have q0 : (0 ≤ i) = False := eq_false h1
      clear HD2 hv3
      go_wp2_with fail
      refine (ref23_Same_eq _ _ _ _ s _ (h.below (by (repeat' (first | (with_reducible exact Below.refl _ _) | (with_reducible assumption) | (with_reducible refine more_below ?_ ?_ _ _) | (with_reducible refine below_drewN ?_ _) | (with_reducible refine Below.alloc ?_ ?_ _) | (with_reducible refine Below.drew ?_) | (with_reducible refine Below.setCell ?_ ?_ _) | (simp only [World.size_alloc, World.size_setCell, World.size_drew, more_size, World.heap_drewN]; omega) | go_size)))) (hWas.below (by (repeat' (first | (with_reducible exact Below.refl _ _) | (with_reducible assumption) | (with_reducible refine more_below ?_ ?_ _ _) | (with_reducible refine below_drewN ?_ _) | (with_reducible refine Below.alloc ?_ ?_ _) | (with_reducible refine Below.drew ?_) | (with_reducible refine Below.setCell ?_ ?_ _) | (simp only [World.size_alloc, World.size_setCell, World.size_drew, more_size, World.heap_drewN]; omega) | go_size))))).mono ?_; rintro e A4 ⟨rfl, hb4⟩
      have hb4' : Below (A3.heap.size + 1) (A3.alloc (.cells #[.slice ta tn tc, .slice ua un uc, .int .i64 s.now, .int .i64 s.fault] 31)) A4 := by simpa using hb4
      have hb34 : Below A3.heap.size A3 A4 := Below.trans (by (repeat' (first | (with_reducible exact Below.refl _ _) | (with_reducible assumption) | (with_reducible refine below_drewN ?_ _) | (with_reducible refine Below.alloc ?_ ?_ _) | (with_reducible refine Below.drew ?_) | (with_reducible refine Below.setCell ?_ ?_ _) | go_size))) (hb4'.mono (by omega))
      have f10 := C4.new A3 _ _ _ _ _ hb4'
      have f4 := C4.keep ⟨e0, e1, e2, e3⟩ z3b hb34
      have hB4 := hB3.trans (hb34.mono hB3.size)
      have z4 : A3.heap.size < A4.heap.size := by have := hb4'.size; simp at this; omega
      have z4b : w.heap.size < A4.heap.size := by omega
      clear hb4 hb4' e0 e1 e2 e3
      obtain ⟨e0, e1, e2, e3⟩ := id f4
      go_wp2_with fail
      refine (hRd _ hB4).mono ?_; rintro e A5 ⟨rfl, hb5⟩
      have f5 := f4.keep z4b hb5
      have f10 := f10.keep z4 hb5
      have hB5 := hB4.trans (hb5.mono hB4.size)
      have hb35 := hb34.trans (hb5.mono hb34.size)
      clear e0 e1 e2 e3 f4
      obtain ⟨e0, e1, e2, e3⟩ := id f5
      obtain ⟨t0, t1, t2, t3⟩ := id f10
      go_wp2_with fail
      refine (ref23_Same_eq _ _ _ _ s _ (hT.below hb35) (h.below hB5)).mono ?_; rintro e A6 ⟨rfl, hb6⟩
      have hB6 := hB5.trans (hb6.mono hB5.size)
      go_wp2_with fail
      refine (hAw _).mono ?_; rintro e A7 ⟨rfl, hb7⟩
      have hB7 := hB6.trans (hb7.mono hB6.size)
      go_wp2_with fail
      go_ret
      exact ⟨rfl, hB7⟩
  · have hw := writeS_yes hh x
    have hr0 := readS_yes hh
    obtain ⟨n, m, rfl, rfl, l, z, hxn, hxm, hz⟩ := hasS_at hh
    have en : (((n : Nat) : Int)).toNat = n := by omega
    have em : (((m : Nat) : Int)).toNat = m := by omega
    rw [en, em] at hw
    rw [hw] at hT
    rw [hh, hr0, hz] at hRd
    obtain ⟨F1, F2, F3, F4⟩ := setS_facts hxn hxm x
    have hv3 := h.vs.below intsR_stable hB3
    have hn : n < Nw := by have := lt_of_get hxn; omega
    have hm : m < l.length := lt_of_get hxm
    obtain ⟨bk, off, rfl, hbw, hc⟩ := rows_at hv3 (k := n) (by omega)
    obtain ⟨u, c0, hu⟩ := hc n l hxn
    have hll := hu.len
    obtain ⟨su, cu, rfl⟩ := row_get hu
    obtain ⟨bq, offq, rfl, hbq, hcq⟩ := ints_at hu hm
    obtain ⟨d0, hz64⟩ := hcq m z hxm
    have hRdT := fun W (hb : Below A3.heap.size A3 W) => state_Read _ _ (setS s n m x) n m W (hT.below hb)
    have hWrT := fun W (hb : Below A3.heap.size A3 W) => state_Write _ _ (setS s n m x) n m z hz64 W (hT.below hb) (F4.trans hsh)
    rw [F1, F2] at hRdT
    rw [F1, F3] at hWrT
    clear hc hcq hxn hxm hu hv3 hw hr0 F1 F2 F3 F4 hz hh htn hun en em
    generalize l.length = nl at *
    have q0 : (0 ≤ (n : Int)) = True := eq_true (by omega)
    have q1 : ((n : Int) < Nw) = True := eq_true (by omega)
    have q2 : (0 ≤ (m : Int)) = True := eq_true (by omega)
    have q3 : ((m : Int) < nl) = True := eq_true (by omega)
    go_wp2_with fail
    refine (ref23_Same_eq _ _ _ _ s _ (h.below (by (repeat' (first | (with_reducible exact Below.refl _ _) | (with_reducible assumption) | (with_reducible refine more_below ?_ ?_ _ _) | (with_reducible refine below_drewN ?_ _) | (with_reducible refine Below.alloc ?_ ?_ _) | (with_reducible refine Below.drew ?_) | (with_reducible refine Below.setCell ?_ ?_ _) | (simp only [World.size_alloc, World.size_setCell, World.size_drew, more_size, World.heap_drewN]; omega) | go_size)))) (hWas.below (by (repeat' (first | (with_reducible exact Below.refl _ _) | (with_reducible assumption) | (with_reducible refine more_below ?_ ?_ _ _) | (with_reducible refine below_drewN ?_ _) | (with_reducible refine Below.alloc ?_ ?_ _) | (with_reducible refine Below.drew ?_) | (with_reducible refine Below.setCell ?_ ?_ _) | (simp only [World.size_alloc, World.size_setCell, World.size_drew, more_size, World.heap_drewN]; omega) | go_size))))).mono ?_; rintro e A4 ⟨rfl, hb4⟩
    have hb4' : Below (A3.heap.size + 1) (A3.alloc (.cells #[.slice ta tn tc, .slice ua un uc, .int .i64 s.now, .int .i64 s.fault] 31)) A4 := by simpa using hb4
    have hb34 : Below A3.heap.size A3 A4 := Below.trans (by (repeat' (first | (with_reducible exact Below.refl _ _) | (with_reducible assumption) | (with_reducible refine below_drewN ?_ _) | (with_reducible refine Below.alloc ?_ ?_ _) | (with_reducible refine Below.drew ?_) | (with_reducible refine Below.setCell ?_ ?_ _) | go_size))) (hb4'.mono (by omega))
    have f10 := C4.new A3 _ _ _ _ _ hb4'
    have f4 := C4.keep ⟨e0, e1, e2, e3⟩ z3b hb34
    have hB4 := hB3.trans (hb34.mono hB3.size)
    have z4 : A3.heap.size < A4.heap.size := by have := hb4'.size; simp at this; omega
    have z4b : w.heap.size < A4.heap.size := by omega
    clear hb4 hb4' e0 e1 e2 e3
    obtain ⟨e0, e1, e2, e3⟩ := id f4
    go_wp2_with fail
    refine (hRd _ hB4).mono ?_; rintro e A5 ⟨rfl, hb5⟩
    have f5 := f4.keep z4b hb5
    have f10 := f10.keep z4 hb5
    have hB5 := hB4.trans (hb5.mono hB4.size)
    have hb35 := hb34.trans (hb5.mono hb34.size)
    have z5 : A3.heap.size < A5.heap.size := Nat.lt_of_lt_of_le z4 hb5.size
    have z5b : w.heap.size < A5.heap.size := by omega
    clear e0 e1 e2 e3 f4 hb5
    obtain ⟨e0, e1, e2, e3⟩ := id f5
    obtain ⟨t0, t1, t2, t3⟩ := id f10
    go_wp2_with fail
    refine (hRdT _ hb35).mono ?_; rintro e A6 ⟨rfl, hb6⟩
    have f6 := f5.keep z5b hb6
    have f10 := f10.keep z5 hb6
    have hB6 := hB5.trans (hb6.mono hB5.size)
    have hb36 := hb35.trans (hb6.mono hb35.size)
    have z6 : A3.heap.size < A6.heap.size := Nat.lt_of_lt_of_le z5 hb6.size
    have z6b : w.heap.size < A6.heap.size := by omega
    clear e0 e1 e2 e3 f5 t0 t1 t2 t3 hb6
    obtain ⟨t0, t1, t2, t3⟩ := id f10
    go_wp2_with fail
    refine (hWrT _ hb36).mono ?_; rintro e A7 ⟨vb, bb, rfl, hBk, hb7⟩
    have f7 := f6.keep z6b hb7
    have hB7 := hB6.trans (hb7.mono hB6.size)
    have hb37 := hb36.trans (hb7.mono hb36.size)
    have z7b : w.heap.size < A7.heap.size := Nat.lt_of_lt_of_le z6b hb7.size
    have c7 := (hb37.cell (p := ⟨bk, off + n, none⟩) hbw).trans c0
    have d7 := (hb37.cell (p := ⟨bq, offq + m, none⟩) hbq).trans d0
    have hbk7 : bk < A7.heap.size := Nat.lt_of_lt_of_le hbw hb37.size
    have hbq7 : bq < A7.heap.size := Nat.lt_of_lt_of_le hbq hb37.size
    clear t0 t1 t2 t3 f6 f10 c0 d0 hb7
    obtain ⟨e0, e1, e2, e3⟩ := id f7
    obtain ⟨xa, xc, rfl⟩ := row_get hBk.vs
    obtain ⟨ya, yc, rfl⟩ := row_get hBk.bs
    rw [hNw, hBw] at hBk
    have hnow : (setS s n m x).now = s.now := rfl
    have hfault : (setS s n m x).fault = s.fault := rfl
    try simp only [hnow, hfault]
    try simp only [hNw, hBw]
    go_wp2_with fail
    try simp only [hnow, hfault]
    try simp only [hNw, hBw]
    refine (ref23_Same_eq _ _ _ _ s _ (hBk.below (by (repeat' (first | (with_reducible exact Below.refl _ _) | (with_reducible assumption) | (with_reducible refine more_below ?_ ?_ _ _) | (with_reducible refine below_drewN ?_ _) | (with_reducible refine Below.alloc ?_ ?_ _) | (with_reducible refine Below.drew ?_) | (with_reducible refine Below.setCell ?_ ?_ _) | (simp only [World.size_alloc, World.size_setCell, World.size_drew, more_size, World.heap_drewN]; omega) | go_size)))) (h.below (by (repeat' (first | (with_reducible exact Below.refl _ _) | (with_reducible assumption) | (with_reducible refine more_below ?_ ?_ _ _) | (with_reducible refine below_drewN ?_ _) | (with_reducible refine Below.alloc ?_ ?_ _) | (with_reducible refine Below.drew ?_) | (with_reducible refine Below.setCell ?_ ?_ _) | (simp only [World.size_alloc, World.size_setCell, World.size_drew, more_size, World.heap_drewN]; omega) | go_size))))).mono ?_; rintro e A8 ⟨rfl, hb8⟩
    have hB8 : Below w.heap.size w A8 := Below.trans (by (repeat' (first | (with_reducible exact Below.refl _ _) | (with_reducible assumption) | (with_reducible refine more_below ?_ ?_ _ _) | (with_reducible refine below_drewN ?_ _) | (with_reducible refine Below.alloc ?_ ?_ _) | (with_reducible refine Below.drew ?_) | (with_reducible refine Below.setCell ?_ ?_ _) | (simp only [World.size_alloc, World.size_setCell, World.size_drew, more_size, World.heap_drewN]; omega) | go_size))) (hb8.mono (by simp; omega))
    go_wp2_with fail
    refine (hAw _).mono ?_; rintro e A9 ⟨rfl, hb9⟩
    have hB9 := hB8.trans (hb9.mono hB8.size)
    go_wp2_with fail
    go_ret
    exact ⟨rfl, hB9⟩
end Go.Proofs.Ythanmbfelihkfaa
