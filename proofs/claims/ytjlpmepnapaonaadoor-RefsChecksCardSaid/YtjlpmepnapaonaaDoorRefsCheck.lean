/- Layer 18: the first instruction of a unit that has something that isn't there. -/
import Derived.Test.YtjlpmepnapaonaaDoorRefsRef
import Derived.Test.YtjlpmepnapaonaaDoorRefsJumpR
namespace Go.Proofs.YtjlpmepnapaonaaDoor
open Go.RowKit
set_option linter.unusedSimpArgs false
set_option linter.unusedVariables false
def errAt (p : Pr) (u : Int) (L : List Ins) (k : Nat) : Int :=
  let x := L.getD k (0, 0, 0)
  if oneP p u x.1 x.2.1 x.2.2 = 0 then jumpP L k x.1 x.2.1 else oneP p u x.1 x.2.1 x.2.2
def firstP (f : Nat → Int) (n : Nat) : Int × Int := match (List.range n).find? (fun k => f k != 0) with | some k => (k, f k) | none => (0, 0)
theorem find_range {f : Nat → Bool} : ∀ {n k : Nat}, k < n → (∀ j, j < k → f j = false) → f k = true → (List.range n).find? f = some k := by
  intro n
  induction n with
  | zero => intro k h; omega
  | succ n ih =>
    intro k h h1 h2
    rw [List.range_succ, List.find?_append]
    by_cases hk : k < n
    · rw [ih hk h1 h2]; rfl
    · obtain rfl : k = n := by omega
      have : (List.range k).find? f = none := by
        rw [List.find?_eq_none]; intro x hx; rw [List.mem_range] at hx; rw [h1 x hx]; decide
      rw [this]; simp [h2]
theorem firstP_hit {f : Nat → Int} {n k : Nat} (h : k < n) (h1 : ∀ j, j < k → f j = 0) (h2 : f k ≠ 0) : firstP f n = ((k : Int), f k) := by
  unfold firstP
  rw [find_range h (fun j hj => by simp [h1 j hj]) (by simpa using h2)]
theorem firstP_none {f : Nat → Int} {n : Nat} (h1 : ∀ j, j < n → f j = 0) : firstP f n = (0, 0) := by
  unfold firstP
  have : (List.range n).find? (fun k => f k != 0) = none := by
    rw [List.find?_eq_none]; intro x hx; rw [List.mem_range] at hx; rw [h1 x hx]; decide
  rw [this]
def chkP (p : Pr) (u : Int) : Int × Int := if ¬ (0 ≤ u ∧ u < p.units.length) then (0, 15) else firstP (errAt p u (unAt p u).code) (unAt p u).code.length
theorem chkP_u {p : Pr} {u : Int} (h : ¬ (0 ≤ u ∧ u < p.units.length)) : chkP p u = (0, 15) := if_pos h
theorem chkP_is {p : Pr} {u : Int} (h : 0 ≤ u ∧ u < p.units.length) : chkP p u = firstP (errAt p u (unAt p u).code) (unAt p u).code.length := if_neg (fun q => q h)
theorem oneP_zero {p : Pr} {u o a b : Int} (h : oneP p u o a b = 0) : 0 ≤ a := by
  unfold oneP at h
  split at h
  · omega
  · split at h
    · omega
    · rename_i h1 h2
      exact (oRight_pos (by simpa using h2)).2.1
theorem errAt_one {p : Pr} {u : Int} {L : List Ins} {k : Nat} {x : Ins} (hx : L[k]? = some x) (h : oneP p u x.1 x.2.1 x.2.2 ≠ 0) : errAt p u L k = oneP p u x.1 x.2.1 x.2.2 := by
  unfold errAt; rw [show L.getD k (0, 0, 0) = x by simp [List.getD, hx]]; exact if_neg h
theorem errAt_jump {p : Pr} {u : Int} {L : List Ins} {k : Nat} {x : Ins} (hx : L[k]? = some x) (h : oneP p u x.1 x.2.1 x.2.2 = 0) : errAt p u L k = jumpP L k x.1 x.2.1 := by
  unfold errAt; rw [show L.getD k (0, 0, 0) = x by simp [List.getD, hx]]; exact if_pos h
set_option maxRecDepth 100000 in
set_option maxHeartbeats 8000000 in
theorem refs_Check (pc pv pb pu : Value) (p : Pr) (u : Int) (w : World) (h : PrAt w pc pv pb pu p) (hT : TabR w) (hf : fewP p = true) :
    Calls Tryd.prog 7 #[.agg #[pc, pv, pb, pu], .int .i64 u] w fun e w' => e = .returned (.tuple #[.int .i64 (chkP p u).1, .int .i64 (chkP p u).2]) ∧ Below w.heap.size w w' := by
  have cp := @cell_past
  obtain ⟨⟨f0, f1, f2, f3⟩, _, _, f4⟩ := fewP_is hf
  have hun := h.us
  have HO := Lib.hid (fun (x : Ins) W (hb : Below w.heap.size w W) => refs_One pc pv pb pu p u x.1 x.2.1 x.2.2 W (h.below hb) (hT.below hb) hf)
  obtain ⟨s3, t3, rfl⟩ := row_get h.us
  clear h hT
  by_cases hu0 : u < 0
  · have hs := Lib.hid (chkP_u (p := p) (u := u) (by omega))
    generalize p.units.length = n3 at *
    have q0 : (u < 0) = True := eq_true hu0
    clear hu0
    go_enter Tryd.func7, Tryd.ntmps7
    go_wp2_with fail
    go_returns
    exact ⟨by rw [hs.out]; rfl, by (repeat' (first | (with_reducible exact Below.refl _ _) | (with_reducible assumption) | (with_reducible refine below_drewN ?_ _) | (with_reducible refine Below.alloc ?_ ?_ _) | (with_reducible refine Below.drew ?_) | (with_reducible refine Below.setCell ?_ ?_ _) | go_size))⟩
  have q0 : (u < 0) = False := eq_false hu0
  by_cases hu1 : u < p.units.length
  case neg =>
    have hs := Lib.hid (chkP_u (p := p) (u := u) (by omega))
    generalize p.units.length = n3 at *
    have q1 : ((n3 : Int) ≤ u) = True := eq_true (by omega)
    have q2 : (u < (n3 : Int)) = False := eq_false (by omega)
    clear hu0 hu1
    go_enter Tryd.func7, Tryd.ntmps7
    go_wp2_with fail
    go_returns
    exact ⟨by rw [hs.out]; rfl, by (repeat' (first | (with_reducible exact Below.refl _ _) | (with_reducible assumption) | (with_reducible refine below_drewN ?_ _) | (with_reducible refine Below.alloc ?_ ?_ _) | (with_reducible refine Below.drew ?_) | (with_reducible refine Below.setCell ?_ ?_ _) | go_size))⟩
  have q1 : ((p.units.length : Int) ≤ u) = False := eq_false (by omega)
  have q2 : (u < (p.units.length : Int)) = True := eq_true (by omega)
  have hc := chkP_is (p := p) (u := u) (by omega)
  obtain ⟨i, rfl⟩ := Int.eq_ofNat_of_zero_le (show 0 ≤ u by omega)
  obtain ⟨y, hy⟩ := get_some (L := p.units) (n := i) (by omega)
  have huy : unAt p i = y := by unfold unAt; simp [List.getD, hy]
  rw [huy] at hc
  obtain ⟨b3, off3, rfl, hbw3, hc3⟩ := unit_at hun (k := i) (lt_of_get hy)
  obtain ⟨u1, u3, u4, c0, c1, c2, c3, c4, hU⟩ := hc3 i y hy
  have hyf := (fewU_is (f4 y (List.mem_of_getElem? hy))).2.2.2
  have hcode := hU.cs
  generalize y.code = L at *
  have HC := Lib.hid hc
  have hi3 : i < p.units.length := by omega
  clear hc hc3 hU hy huy hun f4
  generalize p.units.length = n3 at *
  obtain ⟨sc, tc, rfl⟩ := row_get hcode
  obtain ⟨N, hN⟩ : ∃ N, L.length = N := ⟨_, rfl⟩
  have HN := Lib.hid hN
  have HCd := Lib.hid hcode
  rw [hN] at c4 hyf HCd
  clear hcode hN hu0 hu1
  go_enter Tryd.func7, Tryd.ntmps7
  go_wp2_with fail
  go_loopw [27] (fun jj wr => ∃ k : Nat, k ≤ N ∧ jj = .int .i64 k ∧ Hid (∀ j, j < k → errAt p i L j = 0) ∧ Hid (Below (w.heap.size + 1) (w.alloc (.cells #[pc, pv, pb, .slice (some ⟨b3, off3, none⟩) n3 t3] 27)) wr)) (fun jj _ => N - (intOf jj).toNat)
  case atStart => exact ⟨0, by omega, rfl, Lib.hid (fun j hj => by omega), Lib.hid (Below.refl _ _)⟩
  case round =>
    obtain ⟨k, hk, rfl, hall, hBw⟩ := hrel
    have z0 : w.heap.size < wr.heap.size := by have := hBw.out.size; simp at this; omega
    have hB0 : Below w.heap.size w wr := Below.trans (by (repeat' (first | (with_reducible exact Below.refl _ _) | (with_reducible assumption) | (with_reducible refine below_drewN ?_ _) | (with_reducible refine Below.alloc ?_ ?_ _) | (with_reducible refine Below.drew ?_) | (with_reducible refine Below.setCell ?_ ?_ _) | go_size))) (hBw.out.mono (by omega))
    have bx := Boxed.new w [pc, pv, pb, .slice (some ⟨b3, off3, none⟩) n3 t3] 27 hBw.out
    have e0 := bx 0 _ rfl
    have e1 := bx 1 _ rfl
    have e2 := bx 2 _ rfl
    have e3 := bx 3 _ rfl
    clear bx
    by_cases hlt : k < N
    · obtain ⟨x, hx⟩ := get_some (L := L) (n := k) (by rw [HN.out]; exact hlt)
      have HX := Lib.hid hx
      obtain ⟨bc, offc, rfl, hbc, hcc⟩ := code_at HCd.out (k := k) (lt_of_get hx)
      obtain ⟨x0', x1', x2', _⟩ := hcc k x hx
      have x0 := (hB0.cell (p := ⟨bc, offc + k * 3, none⟩) hbc).trans x0'
      have x1 := (hB0.cell (p := ⟨bc, offc + k * 3 + 1, none⟩) hbc).trans x1'
      have x2 := (hB0.cell (p := ⟨bc, offc + k * 3 + 2, none⟩) hbc).trans x2'
      have HO1 := Lib.hid (HO.out x)
      have HJ := Lib.hid (fun W (hb : Below w.heap.size w W) (hz : 0 ≤ x.2.1) => refs_Jump _ L k x W (HCd.out.below insR_stable hb) HX.out hz (by rw [HN.out]; exact hyf))
      have HE1 := Lib.hid (fun hh => errAt_one (p := p) (u := i) HX.out hh)
      have HE2 := Lib.hid (fun hh => errAt_jump (p := p) (u := i) HX.out hh)
      have HZ := Lib.hid (fun hh => oneP_zero (p := p) (u := i) (o := x.1) (a := x.2.1) (b := x.2.2) hh)
      obtain ⟨xo, xa, xb⟩ := x
      simp only at x0 x1 x2 HO1 HJ HE1 HE2 HZ
      clear hcc x0' x1' x2' hx
      go_wp2_with fail
      refine (HO1.out _ (Below.trans hB0 ((show Below wr.heap.size wr _ by (repeat' (first | (with_reducible exact Below.refl _ _) | (with_reducible assumption) | (with_reducible refine below_drewN ?_ _) | (with_reducible refine Below.alloc ?_ ?_ _) | (with_reducible refine Below.drew ?_) | (with_reducible refine Below.setCell ?_ ?_ _) | go_size))).mono hB0.size))).mono ?_; rintro e w1 ⟨rfl, hb1⟩
      have hb1 : Below wr.heap.size wr w1 := Below.trans (by (repeat' (first | (with_reducible exact Below.refl _ _) | (with_reducible assumption) | (with_reducible refine below_drewN ?_ _) | (with_reducible refine Below.alloc ?_ ?_ _) | (with_reducible refine Below.drew ?_) | (with_reducible refine Below.setCell ?_ ?_ _) | go_size))) (hb1.mono (by simp))
      by_cases g0 : oneP p i xo xa xb = 0
      · have HE := HE2.out g0
        have HJ := Lib.hid (fun W hb => HJ.out W hb (HZ.out g0))
        rw [g0]
        clear HE1 HE2 HZ
        go_wp2_with fail
        refine (HJ.out _ (hB0.trans (hb1.mono hB0.size))).mono ?_; rintro e w2 ⟨rfl, hb2⟩
        have hb2 := hb1.trans (hb2.mono hb1.size)
        generalize hj : jumpP L k xo xa = jv at *
        by_cases gj : jv = 0
        · subst gj
          have hs := Lib.hid (show ∀ j, j < k + 1 → errAt p i L j = 0 by
            intro j hjk
            by_cases hh : j = k
            · rw [hh]; exact HE
            · exact hall.out j (by omega))
          have hB2 := Lib.hid (Below.trans hBw.out (hb2.mono (by omega)))
          clear HE hall hj g0
          go_wp2_with fail
          go_roundw
          case rel => exact ⟨k + 1, by omega, by simp, hs, hB2⟩
          case measure => first | (simp [intOf]; done) | (simp [intOf]; omega)
        · have hs := Lib.hid (HC.out.trans (firstP_hit (by rw [HN.out]; exact hlt) hall.out (by rw [HE]; exact gj)))
          rw [HE] at hs
          have qj : (jv != 0) = true := by simpa using gj
          clear HE hall hj g0 gj
          go_wp2_with fail
          go_returns
          exact ⟨by rw [hs.out]; rfl, hB0.trans (hb2.mono hB0.size)⟩
      · have HE := HE1.out g0
        have hs := Lib.hid (HC.out.trans (firstP_hit (by rw [HN.out]; exact hlt) hall.out (by rw [HE]; exact g0)))
        rw [HE] at hs
        generalize oneP p i xo xa xb = ev at *
        have qj : (ev != 0) = true := by simpa using g0
        have qk : (ev == 0) = false := by simpa using g0
        clear HE hall g0 HE1 HE2 HZ HJ
        go_wp2_with fail
        go_returns
        exact ⟨by rw [hs.out]; rfl, hB0.trans (hb1.mono hB0.size)⟩
    · obtain rfl : k = N := by omega
      have hs := Lib.hid (HC.out.trans (firstP_none (by rw [HN.out]; exact hall.out)))
      clear hall
      go_wp2_with fail
      go_returns
      exact ⟨by rw [hs.out]; rfl, hB0⟩
set_option maxRecDepth 100000 in
set_option maxHeartbeats 8000000 in
theorem ref18_Check (pc pv pb pu : Value) (p : Pr) (u : Int) (w : World) (h : PrAt w pc pv pb pu p) (hT : TabR w) (hf : fewP p = true) :
    Calls Tryd.prog 8 #[.agg #[pc, pv, pb, pu], .int .i64 u] w fun e w' => e = .returned (.tuple #[.int .i64 (chkP p u).1, .int .i64 (chkP p u).2]) ∧ Below w.heap.size w w' := by
  have cp := @cell_past
  obtain ⟨⟨f0, f1, f2, f3⟩, _, _, f4⟩ := fewP_is hf
  have hun := h.us
  have HO := Lib.hid (fun (x : Ins) W (hb : Below w.heap.size w W) => ref18_One pc pv pb pu p u x.1 x.2.1 x.2.2 W (h.below hb) hf)
  obtain ⟨s3, t3, rfl⟩ := row_get h.us
  clear h hT
  by_cases hu0 : u < 0
  · have hs := Lib.hid (chkP_u (p := p) (u := u) (by omega))
    generalize p.units.length = n3 at *
    have q0 : (u < 0) = True := eq_true hu0
    clear hu0
    go_enter Tryd.func8, Tryd.ntmps8
    go_wp2_with fail
    go_returns
    exact ⟨by rw [hs.out]; rfl, by (repeat' (first | (with_reducible exact Below.refl _ _) | (with_reducible assumption) | (with_reducible refine below_drewN ?_ _) | (with_reducible refine Below.alloc ?_ ?_ _) | (with_reducible refine Below.drew ?_) | (with_reducible refine Below.setCell ?_ ?_ _) | go_size))⟩
  have q0 : (u < 0) = False := eq_false hu0
  by_cases hu1 : u < p.units.length
  case neg =>
    have hs := Lib.hid (chkP_u (p := p) (u := u) (by omega))
    generalize p.units.length = n3 at *
    have q1 : ((n3 : Int) ≤ u) = True := eq_true (by omega)
    have q2 : (u < (n3 : Int)) = False := eq_false (by omega)
    clear hu0 hu1
    go_enter Tryd.func8, Tryd.ntmps8
    go_wp2_with fail
    go_returns
    exact ⟨by rw [hs.out]; rfl, by (repeat' (first | (with_reducible exact Below.refl _ _) | (with_reducible assumption) | (with_reducible refine below_drewN ?_ _) | (with_reducible refine Below.alloc ?_ ?_ _) | (with_reducible refine Below.drew ?_) | (with_reducible refine Below.setCell ?_ ?_ _) | go_size))⟩
  have q1 : ((p.units.length : Int) ≤ u) = False := eq_false (by omega)
  have q2 : (u < (p.units.length : Int)) = True := eq_true (by omega)
  have hc := chkP_is (p := p) (u := u) (by omega)
  obtain ⟨i, rfl⟩ := Int.eq_ofNat_of_zero_le (show 0 ≤ u by omega)
  obtain ⟨y, hy⟩ := get_some (L := p.units) (n := i) (by omega)
  have huy : unAt p i = y := by unfold unAt; simp [List.getD, hy]
  rw [huy] at hc
  obtain ⟨b3, off3, rfl, hbw3, hc3⟩ := unit_at hun (k := i) (lt_of_get hy)
  obtain ⟨u1, u3, u4, c0, c1, c2, c3, c4, hU⟩ := hc3 i y hy
  have hyf := (fewU_is (f4 y (List.mem_of_getElem? hy))).2.2.2
  have hcode := hU.cs
  generalize y.code = L at *
  have HC := Lib.hid hc
  have hi3 : i < p.units.length := by omega
  clear hc hc3 hU hy huy hun f4
  generalize p.units.length = n3 at *
  obtain ⟨sc, tc, rfl⟩ := row_get hcode
  obtain ⟨N, hN⟩ : ∃ N, L.length = N := ⟨_, rfl⟩
  have HN := Lib.hid hN
  have HCd := Lib.hid hcode
  rw [hN] at c4 hyf HCd
  clear hcode hN hu0 hu1
  go_enter Tryd.func8, Tryd.ntmps8
  go_wp2_with fail
  go_loopw [7] (fun jj wr => ∃ k : Nat, k ≤ N ∧ jj = .int .i64 k ∧ Hid (∀ j, j < k → errAt p i L j = 0) ∧ Hid (Below (w.heap.size + 1) (w.alloc (.cells #[pc, pv, pb, .slice (some ⟨b3, off3, none⟩) n3 t3] 27)) wr)) (fun jj _ => N - (intOf jj).toNat)
  case atStart => exact ⟨0, by omega, rfl, Lib.hid (fun j hj => by omega), Lib.hid (Below.refl _ _)⟩
  case round =>
    obtain ⟨k, hk, rfl, hall, hBw⟩ := hrel
    have z0 : w.heap.size < wr.heap.size := by have := hBw.out.size; simp at this; omega
    have hB0 : Below w.heap.size w wr := Below.trans (by (repeat' (first | (with_reducible exact Below.refl _ _) | (with_reducible assumption) | (with_reducible refine below_drewN ?_ _) | (with_reducible refine Below.alloc ?_ ?_ _) | (with_reducible refine Below.drew ?_) | (with_reducible refine Below.setCell ?_ ?_ _) | go_size))) (hBw.out.mono (by omega))
    have bx := Boxed.new w [pc, pv, pb, .slice (some ⟨b3, off3, none⟩) n3 t3] 27 hBw.out
    have e0 := bx 0 _ rfl
    have e1 := bx 1 _ rfl
    have e2 := bx 2 _ rfl
    have e3 := bx 3 _ rfl
    clear bx
    by_cases hlt : k < N
    · obtain ⟨x, hx⟩ := get_some (L := L) (n := k) (by rw [HN.out]; exact hlt)
      have HX := Lib.hid hx
      obtain ⟨bc, offc, rfl, hbc, hcc⟩ := code_at HCd.out (k := k) (lt_of_get hx)
      obtain ⟨x0', x1', x2', _⟩ := hcc k x hx
      have x0 := (hB0.cell (p := ⟨bc, offc + k * 3, none⟩) hbc).trans x0'
      have x1 := (hB0.cell (p := ⟨bc, offc + k * 3 + 1, none⟩) hbc).trans x1'
      have x2 := (hB0.cell (p := ⟨bc, offc + k * 3 + 2, none⟩) hbc).trans x2'
      have HO1 := Lib.hid (HO.out x)
      have HJ := Lib.hid (fun W (hb : Below w.heap.size w W) (hz : 0 ≤ x.2.1) => ref18_Jump _ L k x W (HCd.out.below insR_stable hb) HX.out hz (by rw [HN.out]; exact hyf))
      have HE1 := Lib.hid (fun hh => errAt_one (p := p) (u := i) HX.out hh)
      have HE2 := Lib.hid (fun hh => errAt_jump (p := p) (u := i) HX.out hh)
      have HZ := Lib.hid (fun hh => oneP_zero (p := p) (u := i) (o := x.1) (a := x.2.1) (b := x.2.2) hh)
      obtain ⟨xo, xa, xb⟩ := x
      simp only at x0 x1 x2 HO1 HJ HE1 HE2 HZ
      clear hcc x0' x1' x2' hx
      have zc : bc < wr.heap.size := Nat.lt_of_lt_of_le hbc hB0.size
      go_wp2_with fail
      refine wp_region_held_drew (S := (fun w' => Below wr.heap.size wr w')) (by kernel_rfl) ?_ (fun hHeld => ?_)
      · (try dsimp only); first | assumption | exact (Below.refl _ _).drew | exact Below.drew (Below.refl _ _) | exact Below_drewN _ _ _ | exact Below.refl _ _ | (trace_state; fail)
      refine wpAnyH_take (i := 0) (oi := { dst := some 30, op := Op.load 27 (Operand.tmp 2), type := 27, pos := _, after := #[], guard := none }) (v := ?_) rfl (by kernel_rfl) (by kernel_rfl) (by kernel_rfl) (fun _ _ _ h => h) (Or.inl ⟨by rfl, ?_⟩) (by assumption) ?_
      rotate_left
      · intro wt hSw; (try dsimp only at hSw); have e0 := cellB hSw e0 z0; have e1 := cellB hSw e1 z0; have e2 := cellB hSw e2 z0; have e3 := cellB hSw e3 z0; have x0 := cellB hSw x0 zc; have x1 := cellB hSw x1 zc; have x2 := cellB hSw x2 zc; first | (go_simp; done) | (go_simp; with_reducible rfl) | (trace_state; fail)
      try simp only [Act.put, List.setIfInBounds_toArray, List.set_cons_zero, List.set_cons_succ]
      refine wpAnyH_take (i := 1) (oi := { dst := some 31, op := Op.move (Operand.tmp 1), type := 3, pos := _, after := #[], guard := none }) (v := ?_) rfl (by kernel_rfl) (by kernel_rfl) (by kernel_rfl) (fun _ _ _ h => h) (Or.inl ⟨by rfl, ?_⟩) (by assumption) ?_
      rotate_left
      · intro wt hSw; (try dsimp only at hSw); have e0 := cellB hSw e0 z0; have e1 := cellB hSw e1 z0; have e2 := cellB hSw e2 z0; have e3 := cellB hSw e3 z0; have x0 := cellB hSw x0 zc; have x1 := cellB hSw x1 zc; have x2 := cellB hSw x2 zc; first | (go_simp; done) | (go_simp; with_reducible rfl) | (trace_state; fail)
      try simp only [Act.put, List.setIfInBounds_toArray, List.set_cons_zero, List.set_cons_succ]
      refine wpAnyH_take (i := 2) (oi := { dst := some 32, op := Op.move (Operand.tmp 6), type := 44, pos := _, after := #[], guard := none }) (v := ?_) rfl (by kernel_rfl) (by kernel_rfl) (by kernel_rfl) (fun _ _ _ h => h) (Or.inl ⟨by rfl, ?_⟩) (by assumption) ?_
      rotate_left
      · intro wt hSw; (try dsimp only at hSw); have e0 := cellB hSw e0 z0; have e1 := cellB hSw e1 z0; have e2 := cellB hSw e2 z0; have e3 := cellB hSw e3 z0; have x0 := cellB hSw x0 zc; have x1 := cellB hSw x1 zc; have x2 := cellB hSw x2 zc; first | (go_simp; done) | (go_simp; with_reducible rfl) | (trace_state; fail)
      try simp only [Act.put, List.setIfInBounds_toArray, List.set_cons_zero, List.set_cons_succ]
      refine wpAnyH_take (i := 3) (oi := { dst := some 33, op := Op.move (Operand.tmp 7), type := 3, pos := _, after := #[], guard := none }) (v := ?_) rfl (by kernel_rfl) (by kernel_rfl) (by kernel_rfl) (fun _ _ _ h => h) (Or.inl ⟨by rfl, ?_⟩) (by assumption) ?_
      rotate_left
      · intro wt hSw; (try dsimp only at hSw); have e0 := cellB hSw e0 z0; have e1 := cellB hSw e1 z0; have e2 := cellB hSw e2 z0; have e3 := cellB hSw e3 z0; have x0 := cellB hSw x0 zc; have x1 := cellB hSw x1 zc; have x2 := cellB hSw x2 zc; first | (go_simp; done) | (go_simp; with_reducible rfl) | (trace_state; fail)
      try simp only [Act.put, List.setIfInBounds_toArray, List.set_cons_zero, List.set_cons_succ]
      refine wpAnyH_take (i := 4) (oi := { dst := some 34, op := Op.indexAddr 44 (Operand.tmp 32) (Operand.tmp 33), type := 0, pos := _, after := #[{ on := 2, ground := Ground.data }, { on := 3, ground := Ground.data }], guard := none }) (v := ?_) rfl (by kernel_rfl) (by kernel_rfl) (by kernel_rfl) (fun _ _ _ h => h) (Or.inl ⟨by rfl, ?_⟩) (by assumption) ?_
      rotate_left
      · intro wt hSw; (try dsimp only at hSw); have e0 := cellB hSw e0 z0; have e1 := cellB hSw e1 z0; have e2 := cellB hSw e2 z0; have e3 := cellB hSw e3 z0; have x0 := cellB hSw x0 zc; have x1 := cellB hSw x1 zc; have x2 := cellB hSw x2 zc; first | (go_simp; done) | (go_simp; with_reducible rfl) | (trace_state; fail)
      try simp only [Act.put, List.setIfInBounds_toArray, List.set_cons_zero, List.set_cons_succ]
      refine wpAnyH_take (i := 5) (oi := { dst := some 35, op := Op.load 35 (Operand.tmp 34), type := 35, pos := _, after := #[{ on := 4, ground := Ground.data }], guard := none }) (v := ?_) rfl (by kernel_rfl) (by kernel_rfl) (by kernel_rfl) (fun _ _ _ h => h) (Or.inl ⟨by rfl, ?_⟩) (by assumption) ?_
      rotate_left
      · intro wt hSw; (try dsimp only at hSw); have e0 := cellB hSw e0 z0; have e1 := cellB hSw e1 z0; have e2 := cellB hSw e2 z0; have e3 := cellB hSw e3 z0; have x0 := cellB hSw x0 zc; have x1 := cellB hSw x1 zc; have x2 := cellB hSw x2 zc; first | (go_simp; done) | (go_simp; with_reducible rfl) | (trace_state; fail)
      try simp only [Act.put, List.setIfInBounds_toArray, List.set_cons_zero, List.set_cons_succ]
      refine wpAnyH_ready (rs := [6]) (by kernel_rfl) (by simp) ?_
      refine AllReadyH.cons (o := { dst := some 36, op := Op.call { callee := Callee.value (Operand.func 12), args := #[Operand.tmp 30, Operand.tmp 31, Operand.tmp 35], argTypes := #[27, 3, 35] }, type := 30, pos := _, after := #[{ on := 0, ground := Ground.data }, { on := 1, ground := Ground.data }, { on := 5, ground := Ground.data }], guard := none }) rfl (fun K hK => ?_) AllReadyH.nil
      go_simp
      refine (HO1.out _ (hB0.trans (hHeld.mono hB0.size))).mono ?_; rintro e w1 ⟨rfl, hb1⟩; have hHeld := hHeld.trans (hb1.mono hHeld.size); clear hb1
      go_wp2_with fail
      refine hK.out _ _ ?_ (fun hHeld => ?_)
      · (try dsimp only); first | assumption | exact (Below.refl _ _).drew | exact Below.drew (Below.refl _ _) | exact Below_drewN _ _ _ | exact Below.refl _ _ | (trace_state; fail)
      clear hK K
      try simp only [Act.put, List.setIfInBounds_toArray, List.set_cons_zero, List.set_cons_succ]
      refine wpAnyH_take (i := 7) (oi := { dst := some 8, op := Op.assign (Operand.tmp 36), type := 30, pos := _, after := #[{ on := 6, ground := Ground.data }, { on := 6, ground := Ground.chain }, { on := 0, ground := Ground.phase }, { on := 1, ground := Ground.phase }, { on := 2, ground := Ground.phase }, { on := 3, ground := Ground.phase }, { on := 4, ground := Ground.phase }, { on := 5, ground := Ground.phase }, { on := 6, ground := Ground.phase }], guard := none }) (v := ?_) rfl (by kernel_rfl) (by kernel_rfl) (by kernel_rfl) (fun _ _ _ h => h) (Or.inl ⟨by rfl, ?_⟩) (by assumption) ?_
      rotate_left
      · intro wt hSw; (try dsimp only at hSw); have e0 := cellB hSw e0 z0; have e1 := cellB hSw e1 z0; have e2 := cellB hSw e2 z0; have e3 := cellB hSw e3 z0; have x0 := cellB hSw x0 zc; have x1 := cellB hSw x1 zc; have x2 := cellB hSw x2 zc; first | (go_simp; done) | (go_simp; with_reducible rfl) | (trace_state; fail)
      try simp only [Act.put, List.setIfInBounds_toArray, List.set_cons_zero, List.set_cons_succ]
      refine wpAnyH_done (by kernel_rfl) ?_ _
      have hb1 := hHeld
      clear hHeld
      by_cases g0 : oneP p i xo xa xb = 0
      · have HE := HE2.out g0
        have HJ := Lib.hid (fun W hb => HJ.out W hb (HZ.out g0))
        rw [g0]
        clear HE1 HE2 HZ
        go_wp2_with fail
        refine (HJ.out _ (hB0.trans (hb1.mono hB0.size))).mono ?_; rintro e w2 ⟨rfl, hb2⟩
        have hb2 := hb1.trans (hb2.mono hb1.size)
        generalize hj : jumpP L k xo xa = jv at *
        by_cases gj : jv = 0
        · subst gj
          have hs := Lib.hid (show ∀ j, j < k + 1 → errAt p i L j = 0 by
            intro j hjk
            by_cases hh : j = k
            · rw [hh]; exact HE
            · exact hall.out j (by omega))
          have hB2 := Lib.hid (Below.trans hBw.out (hb2.mono (by omega)))
          clear HE hall hj g0
          go_wp2_with fail
          go_roundw
          case rel => exact ⟨k + 1, by omega, by simp, hs, hB2⟩
          case measure => first | (simp [intOf]; done) | (simp [intOf]; omega)
        · have hs := Lib.hid (HC.out.trans (firstP_hit (by rw [HN.out]; exact hlt) hall.out (by rw [HE]; exact gj)))
          rw [HE] at hs
          have qj : (jv != 0) = true := by simpa using gj
          clear HE hall hj g0 gj
          go_wp2_with fail
          go_returns
          exact ⟨by rw [hs.out]; rfl, hB0.trans (hb2.mono hB0.size)⟩
      · have HE := HE1.out g0
        have hs := Lib.hid (HC.out.trans (firstP_hit (by rw [HN.out]; exact hlt) hall.out (by rw [HE]; exact g0)))
        rw [HE] at hs
        generalize oneP p i xo xa xb = ev at *
        have qj : (ev != 0) = true := by simpa using g0
        have qk : (ev == 0) = false := by simpa using g0
        clear HE hall g0 HE1 HE2 HZ HJ
        go_wp2_with fail
        go_returns
        exact ⟨by rw [hs.out]; rfl, hB0.trans (hb1.mono hB0.size)⟩
    · obtain rfl : k = N := by omega
      have hs := Lib.hid (HC.out.trans (firstP_none (by rw [HN.out]; exact hall.out)))
      clear hall
      go_wp2_with fail
      go_returns
      exact ⟨by rw [hs.out]; rfl, hB0⟩
end Go.Proofs.YtjlpmepnapaonaaDoor
