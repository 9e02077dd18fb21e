/- Merged texts: NnR, StillBy, NnT, NnI, NnS, LawNn, LaidFlat, LawElevenFacts, LawExFacts, RepOpen, OpenUnit, OpenPr, OpenState, OpenStates, OpenCase, ExOpen. -/
import Derived.Test.YtknbomikiakpmaaDoorMg0
import Derived.Test.YtknbomikiakpmaaDoorMg2
import Derived.LoopTactic
import Derived.BigRegion
import Derived.BigQuiet
import Derived.StillTailTactics
import Derived.Test.YtknbomikiakpmaaDoorMg4
import Derived.Test.YtknbomikiakpmaaDoorMg3
import Derived.Test.YtknbomikiakpmaaDoorMg5
import Derived.Test.YtknbomikiakpmaaDoorMg1
import Derived.Test.YtknbomikiakpmaaDoorLaid
import Derived.Test.YtknbomikiakpmaaDoorBase
import Derived.Deep.Slices
import Derived.ChangeSame
import Derived.ChangeArms
/- Layer 43: the answer's Leaf and Many. -/
namespace Go.Proofs.YtknbomikiakpmaaDoor
open Go.RowKit
open NN
set_option linter.unusedSimpArgs false
set_option linter.unusedVariables false
set_option maxRecDepth 100000 in
set_option maxHeartbeats 4000000 in
theorem ref43_Leaf (a b c d : Value) (s : Sc) (e : Ex) (w : World) (v : Value) (hs : ScAt w a b d s) (hc : ∃ p q k, c = .slice p q k) (hv : ExV w v e) :
    Calls Tryd.prog 11 #[.agg #[a, b, c, d], v] w fun r w' => r = .returned (.bool (leafR s e)) ∧ Below w.heap.size w w' := by
  have HT := Lib.hid (fun W (hb : Below w.heap.size w W) => ref26_Type e a b c d s v W (hs.below hb) hc (hv.below hb))
  have HD := Lib.hid (show leafR s e = ((e.op == 1 || e.op == 2 || e.op == 3 || e.op == 5) && typeE s e == 1) from rfl)
  generalize leafR s e = Z at *
  generalize typeE s e = ty at *
  obtain ⟨op, t, n, m, l⟩ := e
  obtain ⟨sl, rfl, hr, hrow⟩ := hv
  simp only at hrow HD ⊢
  obtain ⟨sa, sc, rfl⟩ := row_get hrow
  generalize l.length = N at *
  clear hs hc hrow hr
  by_cases o1 : op = 1
  · subst o1
    by_cases h1 : ty = 1
    · have HZ := Lib.hid (show Z = true by rw [HD.out, h1]; rfl)
      subst h1
      go_enter Tryd.func11, Tryd.ntmps11
      go_wp2_with fail
      refine (HT.out _ (by (repeat' (first | (with_reducible exact Below.refl _ _) | (with_reducible assumption) | (with_reducible refine below_drewN ?_ _) | (with_reducible refine Below.alloc ?_ ?_ _) | (with_reducible refine Below.drew ?_) | (with_reducible refine Below.setCell ?_ ?_ _) | go_size)))).mono ?_; rintro e w1 ⟨rfl, hb1⟩
      go_wp2_with fail
      go_ret
      exact ⟨by rw [HZ.out]; rfl, Below.trans (by (repeat' (first | (with_reducible exact Below.refl _ _) | (with_reducible assumption) | (with_reducible refine below_drewN ?_ _) | (with_reducible refine Below.alloc ?_ ?_ _) | (with_reducible refine Below.drew ?_) | (with_reducible refine Below.setCell ?_ ?_ _) | go_size))) (hb1.mono (by simp; omega))⟩
    · have HZ := Lib.hid (show Z = false by rw [HD.out]; simp [h1])
      have q1 : (ty == 1) = false := beq_eq_false_iff_ne.2 h1
      clear h1
      go_enter Tryd.func11, Tryd.ntmps11
      go_wp2_with fail
      refine (HT.out _ (by (repeat' (first | (with_reducible exact Below.refl _ _) | (with_reducible assumption) | (with_reducible refine below_drewN ?_ _) | (with_reducible refine Below.alloc ?_ ?_ _) | (with_reducible refine Below.drew ?_) | (with_reducible refine Below.setCell ?_ ?_ _) | go_size)))).mono ?_; rintro e w1 ⟨rfl, hb1⟩
      go_wp2_with fail
      go_ret
      exact ⟨by rw [HZ.out]; rfl, Below.trans (by (repeat' (first | (with_reducible exact Below.refl _ _) | (with_reducible assumption) | (with_reducible refine below_drewN ?_ _) | (with_reducible refine Below.alloc ?_ ?_ _) | (with_reducible refine Below.drew ?_) | (with_reducible refine Below.setCell ?_ ?_ _) | go_size))) (hb1.mono (by simp; omega))⟩
  have p1 : (op == 1) = false := beq_eq_false_iff_ne.2 o1
  by_cases o2 : op = 2
  · subst o2
    by_cases h1 : ty = 1
    · have HZ := Lib.hid (show Z = true by rw [HD.out, h1]; rfl)
      subst h1
      go_enter Tryd.func11, Tryd.ntmps11
      go_wp2_with fail
      refine (HT.out _ (by (repeat' (first | (with_reducible exact Below.refl _ _) | (with_reducible assumption) | (with_reducible refine below_drewN ?_ _) | (with_reducible refine Below.alloc ?_ ?_ _) | (with_reducible refine Below.drew ?_) | (with_reducible refine Below.setCell ?_ ?_ _) | go_size)))).mono ?_; rintro e w1 ⟨rfl, hb1⟩
      go_wp2_with fail
      go_ret
      exact ⟨by rw [HZ.out]; rfl, Below.trans (by (repeat' (first | (with_reducible exact Below.refl _ _) | (with_reducible assumption) | (with_reducible refine below_drewN ?_ _) | (with_reducible refine Below.alloc ?_ ?_ _) | (with_reducible refine Below.drew ?_) | (with_reducible refine Below.setCell ?_ ?_ _) | go_size))) (hb1.mono (by simp; omega))⟩
    · have HZ := Lib.hid (show Z = false by rw [HD.out]; simp [h1])
      have q1 : (ty == 1) = false := beq_eq_false_iff_ne.2 h1
      clear h1
      go_enter Tryd.func11, Tryd.ntmps11
      go_wp2_with fail
      refine (HT.out _ (by (repeat' (first | (with_reducible exact Below.refl _ _) | (with_reducible assumption) | (with_reducible refine below_drewN ?_ _) | (with_reducible refine Below.alloc ?_ ?_ _) | (with_reducible refine Below.drew ?_) | (with_reducible refine Below.setCell ?_ ?_ _) | go_size)))).mono ?_; rintro e w1 ⟨rfl, hb1⟩
      go_wp2_with fail
      go_ret
      exact ⟨by rw [HZ.out]; rfl, Below.trans (by (repeat' (first | (with_reducible exact Below.refl _ _) | (with_reducible assumption) | (with_reducible refine below_drewN ?_ _) | (with_reducible refine Below.alloc ?_ ?_ _) | (with_reducible refine Below.drew ?_) | (with_reducible refine Below.setCell ?_ ?_ _) | go_size))) (hb1.mono (by simp; omega))⟩
  have p2 : (op == 2) = false := beq_eq_false_iff_ne.2 o2
  by_cases o3 : op = 3
  · subst o3
    by_cases h1 : ty = 1
    · have HZ := Lib.hid (show Z = true by rw [HD.out, h1]; rfl)
      subst h1
      go_enter Tryd.func11, Tryd.ntmps11
      go_wp2_with fail
      refine (HT.out _ (by (repeat' (first | (with_reducible exact Below.refl _ _) | (with_reducible assumption) | (with_reducible refine below_drewN ?_ _) | (with_reducible refine Below.alloc ?_ ?_ _) | (with_reducible refine Below.drew ?_) | (with_reducible refine Below.setCell ?_ ?_ _) | go_size)))).mono ?_; rintro e w1 ⟨rfl, hb1⟩
      go_wp2_with fail
      go_ret
      exact ⟨by rw [HZ.out]; rfl, Below.trans (by (repeat' (first | (with_reducible exact Below.refl _ _) | (with_reducible assumption) | (with_reducible refine below_drewN ?_ _) | (with_reducible refine Below.alloc ?_ ?_ _) | (with_reducible refine Below.drew ?_) | (with_reducible refine Below.setCell ?_ ?_ _) | go_size))) (hb1.mono (by simp; omega))⟩
    · have HZ := Lib.hid (show Z = false by rw [HD.out]; simp [h1])
      have q1 : (ty == 1) = false := beq_eq_false_iff_ne.2 h1
      clear h1
      go_enter Tryd.func11, Tryd.ntmps11
      go_wp2_with fail
      refine (HT.out _ (by (repeat' (first | (with_reducible exact Below.refl _ _) | (with_reducible assumption) | (with_reducible refine below_drewN ?_ _) | (with_reducible refine Below.alloc ?_ ?_ _) | (with_reducible refine Below.drew ?_) | (with_reducible refine Below.setCell ?_ ?_ _) | go_size)))).mono ?_; rintro e w1 ⟨rfl, hb1⟩
      go_wp2_with fail
      go_ret
      exact ⟨by rw [HZ.out]; rfl, Below.trans (by (repeat' (first | (with_reducible exact Below.refl _ _) | (with_reducible assumption) | (with_reducible refine below_drewN ?_ _) | (with_reducible refine Below.alloc ?_ ?_ _) | (with_reducible refine Below.drew ?_) | (with_reducible refine Below.setCell ?_ ?_ _) | go_size))) (hb1.mono (by simp; omega))⟩
  have p3 : (op == 3) = false := beq_eq_false_iff_ne.2 o3
  by_cases o5 : op = 5
  · subst o5
    by_cases h1 : ty = 1
    · have HZ := Lib.hid (show Z = true by rw [HD.out, h1]; rfl)
      subst h1
      go_enter Tryd.func11, Tryd.ntmps11
      go_wp2_with fail
      refine (HT.out _ (by (repeat' (first | (with_reducible exact Below.refl _ _) | (with_reducible assumption) | (with_reducible refine below_drewN ?_ _) | (with_reducible refine Below.alloc ?_ ?_ _) | (with_reducible refine Below.drew ?_) | (with_reducible refine Below.setCell ?_ ?_ _) | go_size)))).mono ?_; rintro e w1 ⟨rfl, hb1⟩
      go_wp2_with fail
      go_ret
      exact ⟨by rw [HZ.out]; rfl, Below.trans (by (repeat' (first | (with_reducible exact Below.refl _ _) | (with_reducible assumption) | (with_reducible refine below_drewN ?_ _) | (with_reducible refine Below.alloc ?_ ?_ _) | (with_reducible refine Below.drew ?_) | (with_reducible refine Below.setCell ?_ ?_ _) | go_size))) (hb1.mono (by simp; omega))⟩
    · have HZ := Lib.hid (show Z = false by rw [HD.out]; simp [h1])
      have q1 : (ty == 1) = false := beq_eq_false_iff_ne.2 h1
      clear h1
      go_enter Tryd.func11, Tryd.ntmps11
      go_wp2_with fail
      refine (HT.out _ (by (repeat' (first | (with_reducible exact Below.refl _ _) | (with_reducible assumption) | (with_reducible refine below_drewN ?_ _) | (with_reducible refine Below.alloc ?_ ?_ _) | (with_reducible refine Below.drew ?_) | (with_reducible refine Below.setCell ?_ ?_ _) | go_size)))).mono ?_; rintro e w1 ⟨rfl, hb1⟩
      go_wp2_with fail
      go_ret
      exact ⟨by rw [HZ.out]; rfl, Below.trans (by (repeat' (first | (with_reducible exact Below.refl _ _) | (with_reducible assumption) | (with_reducible refine below_drewN ?_ _) | (with_reducible refine Below.alloc ?_ ?_ _) | (with_reducible refine Below.drew ?_) | (with_reducible refine Below.setCell ?_ ?_ _) | go_size))) (hb1.mono (by simp; omega))⟩
  have p5 : (op == 5) = false := beq_eq_false_iff_ne.2 o5
  have HZ := Lib.hid (show Z = false by rw [HD.out, p1, p2, p3, p5]; rfl)
  clear o1 o2 o3 o5
  go_enter Tryd.func11, Tryd.ntmps11
  go_wp2_with fail
  go_ret
  exact ⟨by rw [HZ.out]; rfl, by (repeat' (first | (with_reducible exact Below.refl _ _) | (with_reducible assumption) | (with_reducible refine below_drewN ?_ _) | (with_reducible refine Below.alloc ?_ ?_ _) | (with_reducible refine Below.drew ?_) | (with_reducible refine Below.setCell ?_ ?_ _) | go_size))⟩
theorem many_le (e : Ex) : 1 ≤ manyE e ∧ manyE e ≤ 1000 := by
  induction e using Ex.ind with
  | h op t n m l ih =>
    have hs : 0 ≤ (l.map manyE).sum ∧ (l ≠ [] → 1 ≤ (l.map manyE).sum) := by
      clear op t n m
      induction l with
      | nil => simp
      | cons x l il =>
        have h1 := ih x (by simp)
        have h2 := (il fun y hy => ih y (by simp [hy])).1
        rw [List.map_cons, List.sum_cons]
        exact ⟨by omega, fun _ => by omega⟩
    rw [manyE_mk]
    unfold manyF
    cases l with
    | nil => simp only [List.length_nil, if_true]; split <;> split <;> omega
    | cons x l =>
      have h1 := hs.2 (by simp)
      have h2 : ¬ (x :: l).length = 0 := by simp
      simp only [if_neg h2]
      split <;> split <;> omega
theorem many_sum {l : List Ex} (k : Nat) : 0 ≤ ((l.take k).map manyE).sum ∧ ((l.take k).map manyE).sum ≤ 1000 * k := by
  induction k generalizing l with
  | zero => simp
  | succ k ih =>
    cases l with
    | nil => simp; omega
    | cons x l =>
      have h1 := many_le x
      have h2 := ih (l := l)
      rw [List.take_succ_cons, List.map_cons, List.sum_cons]
      omega
set_option maxRecDepth 100000 in
set_option maxHeartbeats 4000000 in
theorem ref43_Many (e : Ex) : ∀ (w : World) (v : Value), SmallE 300 e → ExV w v e →
    Calls Tryd.prog 44 #[v] w fun r w' => r = .returned (.int .i64 (manyE e)) ∧ Below w.heap.size w w' := by
  induction e using Ex.ind with
  | h op t n m l ih =>
    intro w v he hv
    have hl3 := SmallE.len he
    simp only at hl3
    have HIH := Lib.hid (fun x (hx : x ∈ l) W u (hu : ExV W u x) => ih x hx W u (he.within x hx) hu)
    have HD := Lib.hid (manyE_mk ⟨op, t, n, m, l⟩)
    generalize manyE ⟨op, t, n, m, l⟩ = Z at *
    obtain ⟨sl, rfl, hr, hrow⟩ := hv
    simp only at hrow HD
    obtain ⟨sa, sc, rfl⟩ := row_get hrow
    have HRow := Lib.hid hrow
    obtain ⟨N, hN⟩ : ∃ N, l.length = N := ⟨_, rfl⟩
    have HN := Lib.hid hN
    rw [hN] at HRow HD hl3 ⊢
    obtain ⟨W0, hW0⟩ : ∃ W0, W0 = w.alloc (.cells #[.int .i64 op, .int .i64 t, .int .i64 n, .int .i64 m, .slice sa N sc] 37) := ⟨_, rfl⟩
    have hb0 : Below w.heap.size w W0 := by rw [hW0]; exact (Below.refl _ _).alloc (Nat.le_refl _) _
    have hbx : W0.heap[w.heap.size]? = some (.cells #[.int .i64 op, .int .i64 t, .int .i64 n, .int .i64 m, .slice sa N sc] 37 (0, 0)) := by rw [hW0]; exact get_last rfl
    have e0 : W0.cell? ⟨w.heap.size, 0, none⟩ = some (.int .i64 op) := obj_cell hbx rfl
    have e3 : W0.cell? ⟨w.heap.size, 3, none⟩ = some (.int .i64 m) := obj_cell hbx rfl
    have e4 : W0.cell? ⟨w.heap.size, 4, none⟩ = some (.slice sa N sc) := obj_cell hbx rfl
    have zb : w.heap.size < W0.heap.size := heap_lt hbx
    have HE := Lib.hid (And.intro e0 (And.intro e3 e4))
    have HW0 := Lib.hid hW0
    have HB0 := Lib.hid hb0
    have mixed : Tryd.prog.follows .mixedOrders = true := by kernel_rfl
    clear hW0 hb0 hbx e0 e3 e4 hr hrow ih he hN
    go_enter Tryd.func44, Tryd.ntmps44
    go_wp2_with fail
    rw [← HW0.out]
    go_loopw [3, 4] (fun nn jj wr => ∃ k : Nat, k ≤ N ∧ jj = .int .i64 k ∧ nn = .int .i64 ((l.take k).map manyE).sum ∧ Hid (Below W0.heap.size W0 wr)) (fun _ jj _ => N - (intOf jj).toNat)
    case atStart => exact ⟨0, Nat.zero_le _, rfl, rfl, Lib.hid (Below.refl _ _)⟩
    case round =>
      obtain ⟨k, hk, rfl, rfl, HB⟩ := hrel
      have e0 := (HB.out.cell (p := ⟨w.heap.size, 0, none⟩) zb).trans HE.out.1
      have e3 := (HB.out.cell (p := ⟨w.heap.size, 3, none⟩) zb).trans HE.out.2.1
      have e4 := (HB.out.cell (p := ⟨w.heap.size, 4, none⟩) zb).trans HE.out.2.2
      have zbr : w.heap.size < wr.heap.size := Nat.lt_of_lt_of_le zb HB.out.size
      have hBw := HB0.out.trans (HB.out.mono HB0.out.size)
      by_cases hlt : k < N
      · obtain ⟨x, hx⟩ := get_some (L := l) (n := k) (by have := HN.out; omega)
        obtain ⟨bx, ox, ss, sn, sc2, rfl, hbx, _, _, d0, d1, d2, d3, d4, dV⟩ := ex_at HRow.out hx
        have c0 := (hBw.cell (p := ⟨bx, ox + k * 5, none⟩) hbx).trans d0
        have c1 := (hBw.cell (p := ⟨bx, ox + k * 5 + 1, none⟩) hbx).trans d1
        have c2 := (hBw.cell (p := ⟨bx, ox + k * 5 + 2, none⟩) hbx).trans d2
        have c3 := (hBw.cell (p := ⟨bx, ox + k * 5 + 3, none⟩) hbx).trans d3
        have c4 := (hBw.cell (p := ⟨bx, ox + k * 5 + 4, none⟩) hbx).trans d4
        have yb : bx < wr.heap.size := Nat.lt_of_lt_of_le hbx hBw.size
        have HVx := Lib.hid (fun W (hb : Below wr.heap.size wr W) => (dV.below hBw).below hb)
        have HX := Lib.hid (HIH.out x (List.mem_of_getElem? hx))
        have HSum := Lib.hid (show ((l.take (k + 1)).map manyE).sum = ((l.take k).map manyE).sum + manyE x by rw [List.take_add_one, hx]; simp)
        obtain ⟨m1, m2⟩ := many_le x
        obtain ⟨s1, s2⟩ := many_sum (l := l) k
        have r1 : ((k : Int) < (N : Int)) = True := eq_true (by omega)
        have r1' : (k < N) = True := eq_true hlt
        clear d0 d1 d2 d3 d4 dV hBw hbx hx
        generalize ((l.take k).map manyE).sum = sk at *
        generalize manyE x = mx at *
        obtain ⟨xop, xt, xn, xm, xl⟩ := x
        simp only at c0 c1 c2 c3 HVx HX
        go_wp2_with fail
        refine (HX.out _ _ (HVx.out _ (Below.refl _ _))).mono ?_; rintro e v2 ⟨rfl, hb2⟩
        have HBn := Lib.hid (HB.out.trans (hb2.mono HB.out.size))
        clear hb2
        go_wp2_with fail
        go_roundw
        case rel => exact ⟨k + 1, by omega, by simp, by rw [HSum.out], HBn⟩
        case measure => first | (simp [intOf]; done) | (simp [intOf]; omega)
      · obtain rfl : k = N := by omega
        have r1 : ((k : Int) < (k : Int)) = False := eq_false (by omega)
        have hful : l.take k = l := List.take_of_length_le (by rw [HN.out]; exact Nat.le_refl _)
        obtain ⟨s1, s2⟩ := many_sum (l := l) k
        rw [hful] at s1 s2 ⊢
        have HBw := Lib.hid hBw
        have hpos : l ≠ [] → 1 ≤ (l.map manyE).sum := fun h => by
          cases l with
          | nil => exact absurd rfl h
          | cons x t =>
            have h1 := many_le x
            have h2 := (many_sum (l := t) t.length).1
            rw [List.take_length] at h2
            rw [List.map_cons, List.sum_cons]; omega
        generalize (l.map manyE).sum = sk at *
        clear hful hBw HRow HIH

        by_cases cN : k = 0
        · have hk1 : (if k = 0 then (1 : Int) else sk) = 1 := if_pos cN
          subst cN
          by_cases co : op = 7
          case neg =>
            have qo : (op == 7) = false := beq_eq_false_iff_ne.2 co
            have HM := Lib.hid (show Z = if (1000 : Int) < 1 then 1000 else 1 by
              rw [HD.out, hk1]; unfold manyF; simp [co])
            clear HD hk1
            have cb : ¬ (1000 : Int) < 1 := by decide
            · have HZ := Lib.hid (HM.out.trans (if_neg cb))
              have rb : ((1000 : Int) < 1) = False := eq_false cb
              clear cb HM
              go_wp2_with fail
              go_ret
              exact ⟨by rw [HZ.out]; rfl, HBw.out⟩
          subst co
          by_cases c14 : m = 14
          · subst c14
            have HM := Lib.hid (show Z = if (1000 : Int) < 1 then 1000 else 1 by
              rw [HD.out, hk1]; unfold manyF; simp [])
            clear HD hk1
            have cb : ¬ (1000 : Int) < 1 := by decide
            · have HZ := Lib.hid (HM.out.trans (if_neg cb))
              have rb : ((1000 : Int) < 1) = False := eq_false cb
              clear cb HM
              go_wp2_with fail
              go_ret
              exact ⟨by rw [HZ.out]; rfl, HBw.out⟩
          have q14 : (m != 14) = true := by simpa using c14
          by_cases c15 : m = 15
          · subst c15
            have HM := Lib.hid (show Z = if (1000 : Int) < 1 then 1000 else 1 by
              rw [HD.out, hk1]; unfold manyF; simp [])
            clear HD hk1
            have cb : ¬ (1000 : Int) < 1 := by decide
            · have HZ := Lib.hid (HM.out.trans (if_neg cb))
              have rb : ((1000 : Int) < 1) = False := eq_false cb
              clear cb HM
              go_wp2_with fail
              go_ret
              exact ⟨by rw [HZ.out]; rfl, HBw.out⟩
          have q15 : (m != 15) = true := by simpa using c15
          have HM := Lib.hid (show Z = if (1000 : Int) < 2 * 1 then 1000 else 2 * 1 by
            rw [HD.out, hk1]; unfold manyF; simp [c14, c15])
          clear HD hk1
          have cb : ¬ (1000 : Int) < 2 * 1 := by decide
          · have HZ := Lib.hid (HM.out.trans (if_neg cb))
            have rb : ((1000 : Int) < 2 * 1) = False := eq_false cb
            clear cb HM
            go_wp2_with fail
            go_ret
            exact ⟨by rw [HZ.out]; rfl, HBw.out⟩
        · have hk1 : (if k = 0 then (1 : Int) else sk) = sk := if_neg cN
          have qN : ((k : Int) == 0) = false := beq_eq_false_iff_ne.2 (by omega)
          have qN' : (k == 0) = false := beq_eq_false_iff_ne.2 cN
          have ksk : sk ≤ 300000 := by omega
          by_cases co : op = 7
          case neg =>
            have qo : (op == 7) = false := beq_eq_false_iff_ne.2 co
            have HM := Lib.hid (show Z = if (1000 : Int) < sk then 1000 else sk by
              rw [HD.out, hk1]; unfold manyF; simp [co])
            clear HD hk1
            by_cases cb : (1000 : Int) < sk
            · have HZ := Lib.hid (HM.out.trans (if_pos cb))
              have rb : ((1000 : Int) < sk) = True := eq_true cb
              clear cb HM
              go_wp2_with fail
              go_ret
              exact ⟨by rw [HZ.out]; rfl, HBw.out⟩
            · have HZ := Lib.hid (HM.out.trans (if_neg cb))
              have rb : ((1000 : Int) < sk) = False := eq_false cb
              clear cb HM
              go_wp2_with fail
              go_ret
              exact ⟨by rw [HZ.out]; rfl, HBw.out⟩
          subst co
          by_cases c14 : m = 14
          · subst c14
            have HM := Lib.hid (show Z = if (1000 : Int) < sk then 1000 else sk by
              rw [HD.out, hk1]; unfold manyF; simp [])
            clear HD hk1
            by_cases cb : (1000 : Int) < sk
            · have HZ := Lib.hid (HM.out.trans (if_pos cb))
              have rb : ((1000 : Int) < sk) = True := eq_true cb
              clear cb HM
              go_wp2_with fail
              go_ret
              exact ⟨by rw [HZ.out]; rfl, HBw.out⟩
            · have HZ := Lib.hid (HM.out.trans (if_neg cb))
              have rb : ((1000 : Int) < sk) = False := eq_false cb
              clear cb HM
              go_wp2_with fail
              go_ret
              exact ⟨by rw [HZ.out]; rfl, HBw.out⟩
          have q14 : (m != 14) = true := by simpa using c14
          by_cases c15 : m = 15
          · subst c15
            have HM := Lib.hid (show Z = if (1000 : Int) < sk then 1000 else sk by
              rw [HD.out, hk1]; unfold manyF; simp [])
            clear HD hk1
            by_cases cb : (1000 : Int) < sk
            · have HZ := Lib.hid (HM.out.trans (if_pos cb))
              have rb : ((1000 : Int) < sk) = True := eq_true cb
              clear cb HM
              go_wp2_with fail
              go_ret
              exact ⟨by rw [HZ.out]; rfl, HBw.out⟩
            · have HZ := Lib.hid (HM.out.trans (if_neg cb))
              have rb : ((1000 : Int) < sk) = False := eq_false cb
              clear cb HM
              go_wp2_with fail
              go_ret
              exact ⟨by rw [HZ.out]; rfl, HBw.out⟩
          have q15 : (m != 15) = true := by simpa using c15
          have HM := Lib.hid (show Z = if (1000 : Int) < 2 * sk then 1000 else 2 * sk by
            rw [HD.out, hk1]; unfold manyF; simp [c14, c15])
          clear HD hk1
          by_cases cb : (1000 : Int) < 2 * sk
          · have HZ := Lib.hid (HM.out.trans (if_pos cb))
            have rb : ((1000 : Int) < 2 * sk) = True := eq_true cb
            clear cb HM
            go_wp2_with fail
            go_ret
            exact ⟨by rw [HZ.out]; rfl, HBw.out⟩
          · have HZ := Lib.hid (HM.out.trans (if_neg cb))
            have rb : ((1000 : Int) < 2 * sk) = False := eq_false cb
            clear cb HM
            go_wp2_with fail
            go_ret
            exact ⟨by rw [HZ.out]; rfl, HBw.out⟩
end Go.Proofs.YtknbomikiakpmaaDoor

/- Steps through the operations ahead of a region's last ones, one law each. -/
namespace Go.Proofs.YtknbomikiakpmaaDoor
open Go.RowKit
set_option linter.unusedSimpArgs false
set_option linter.unusedVariables false
theorem want_in {ops : Array Oper} {tmps : Array Value} {o : Oper} {i : Nat} (x : Bool) {b : Bool} (hg : o.guard = some (i, b)) (hy : ((ops[i]?).bind (·.dst)).bind (tmps[·]?) = some (.bool x)) (he : (x == b) = true) : Region.wanted o (yielded ops tmps) = true := by
  unfold Region.wanted yielded
  rw [hg]
  simp only [hy]
  simpa using he
theorem want_out {ops : Array Oper} {tmps : Array Value} {o : Oper} {i : Nat} (x : Bool) {b : Bool} (hg : o.guard = some (i, b)) (hy : ((ops[i]?).bind (·.dst)).bind (tmps[·]?) = some (.bool x)) (he : (x == b) = false) : Region.wanted o (yielded ops tmps) = false := by
  unfold Region.wanted yielded
  rw [hg]
  simp only [hy]
  simpa using he
theorem want_undef {ops : Array Oper} {tmps : Array Value} {o : Oper} {i : Nat} {b : Bool} (hg : o.guard = some (i, b)) (hy : ((ops[i]?).bind (·.dst)).bind (tmps[·]?) = some undef) : Region.wanted o (yielded ops tmps) = false := by
  unfold Region.wanted yielded
  rw [hg]
  simp only [hy, undef]
  rfl
theorem want_free {ops : Array Oper} {tmps : Array Value} {o : Oper} (hg : o.guard = none) : Region.wanted o (yielded ops tmps) = true := by
  unfold Region.wanted
  rw [hg]
end Go.Proofs.YtknbomikiakpmaaDoor

/- Layer 43: the answer's Truth. -/
namespace Go.Proofs.YtknbomikiakpmaaDoor
open Go.RowKit
open NN
set_option linter.unusedSimpArgs false
set_option linter.unusedVariables false
theorem list_take {P : Program} {ops : Array Oper} {Q : Exit → Act → World → Prop} {w : World} {a : Act} {o : Oper} {rest : List Oper} (v : Value) (hw : Region.wanted o (yielded ops a.tmps) = true) (hr : (execOp a.eval o).run P w = .ok (.value v) w)
    (h : wpList P ops Q rest (a.put o.dst v) w) : wpList P ops Q (o :: rest) a w := by
  unfold wpList
  rw [if_pos hw]
  refine Or.inl ?_
  unfold Oper.wp
  rw [hr]
  exact h
theorem list_skip {P : Program} {ops : Array Oper} {Q : Exit → Act → World → Prop} {w : World} {a : Act} {o : Oper} {rest : List Oper} (hw : Region.wanted o (yielded ops a.tmps) = false)
    (h : wpList P ops Q rest (a.put o.dst undef) w) : wpList P ops Q (o :: rest) a w := by
  unfold wpList
  rw [if_neg (by rw [hw]; exact Bool.false_ne_true)]
  exact h
set_option maxRecDepth 100000 in
set_option maxHeartbeats 8000000 in
theorem ref43_Truth (a b c d : Value) (s : Sc) (hc : ∃ p q k, c = .slice p q k) (e : Ex) : ∀ (w : World) (v : Value), SmallE 300 e → ScAt w a b d s → ExV w v e →
    Calls Tryd.prog 42 #[.agg #[a, b, c, d], v] w fun r w' => r = .returned (.bool (truE s e)) ∧ Below w.heap.size w w' := by
  induction e using Ex.ind with
  | h op t n m l ih =>
    intro w v he hs hv
    have hl3 := SmallE.len he
    simp only at hl3
    have HLeaf := Lib.hid (fun W (hb : Below w.heap.size w W) => ref43_Leaf a b c d s _ W v (hs.below hb) hc (hv.below hb))
    have HIH := Lib.hid (fun x (hx : x ∈ l) W u (hb : Below w.heap.size w W) (hu : ExV W u x) => ih x hx W u (he.within x hx) (hs.below hb) hu)
    have HD := Lib.hid (truE_mk s ⟨op, t, n, m, l⟩)
    generalize truE s ⟨op, t, n, m, l⟩ = Z at *
    obtain ⟨sl, rfl, hr, hrow⟩ := hv
    simp only at hrow HD HLeaf
    obtain ⟨sa, sc, rfl⟩ := row_get hrow
    have HRow := Lib.hid hrow
    obtain ⟨N, hN⟩ : ∃ N, l.length = N := ⟨_, rfl⟩
    have HN := Lib.hid hN
    rw [hN] at HRow hl3 HLeaf ⊢
    obtain ⟨W0, hW0⟩ : ∃ W0, W0 = (w.alloc (.cells #[a, b, c, d] 43)).alloc (.cells #[.int .i64 op, .int .i64 t, .int .i64 n, .int .i64 m, .slice sa N sc] 37) := ⟨_, rfl⟩
    obtain ⟨k1, k2, k3, k4⟩ := boxed2 w [a, b, c, d] [.int .i64 op, .int .i64 t, .int .i64 n, .int .i64 m, .slice sa N sc] 43 37 (W' := W0) (by rw [hW0]; exact Below.refl _ _)
    have HW0 := Lib.hid hW0
    have K1 := Lib.hid k1
    have K2 := Lib.hid k2
    have z1 : w.heap.size < W0.heap.size := by omega
    have mixed : Tryd.prog.follows .mixedOrders = true := by kernel_rfl
    have HBad := Lib.hid (show badR ⟨op, t, n, m, l⟩ = (!(t == 0) || !(n == 0) || (op == 6 && (!(m == 17) || !(N == 1))) || (op == 7 && (!(N == 2) || decide (m < 14) || m == 17 || m == 18 || m == 19 || decide (21 < m))) || (!(op == 6) && !(op == 7))) by unfold badR; simp only; rw [hN])
    generalize badR ⟨op, t, n, m, l⟩ = bad at *
    clear k1 k2 hW0 hr hrow ih hs he hN
    cases hlf : leafR s ⟨op, t, n, m, l⟩ with
    | true =>
      rw [hlf] at HLeaf HD
      have HZ := Lib.hid (show Z = true from HD.out.trans (if_pos rfl))
      clear hlf HIH HRow HBad HD
      go_enter Tryd.func42, Tryd.ntmps42
      go_wp2_with fail
      refine (HLeaf.out _ (by (repeat' (first | (with_reducible exact Below.refl _ _) | (with_reducible assumption) | (with_reducible refine below_drewN ?_ _) | (with_reducible refine Below.alloc ?_ ?_ _) | (with_reducible refine Below.drew ?_) | (with_reducible refine Below.setCell ?_ ?_ _) | go_size)))).mono ?_; rintro e w1 ⟨rfl, hb1⟩
      rw [← HW0.out] at hb1
      have HB1 := Lib.hid (k4.trans (hb1.mono k4.size))
      clear hb1
      go_wp2_with fail
      go_ret
      exact ⟨by rw [HZ.out]; rfl, HB1.out⟩
    | false =>
      rw [hlf] at HLeaf HD
      have HD2 := Lib.hid (show Z = if bad = true then false else (l.map (truE s)).all id from HD.out.trans (if_neg (by simp)))
      have HAll := Lib.hid (show bad = false → (∀ x ∈ l, truE s x = true) → Z = true from fun hb h => by
        rw [HD2.out, hb, if_neg (by simp), List.all_eq_true]
        intro y hy
        obtain ⟨x, hx, rfl⟩ := List.mem_map.1 hy
        exact h x hx)
      have HOne := Lib.hid (show ∀ x ∈ l, truE s x = false → Z = false from fun x hx h => by
        rw [HD2.out]
        split
        · rfl
        · rw [List.all_eq_false]
          exact ⟨truE s x, List.mem_map.2 ⟨x, hx, rfl⟩, by rw [h]; simp⟩)
      have HNo := Lib.hid (show bad = true → Z = false from fun h => by rw [HD2.out, h]; rfl)
      clear hlf HD HD2
      by_cases ct : t = 0
      case neg =>
        have qt : (t != 0) = true := by simpa using ct
        have HZ := Lib.hid (HNo.out (by rw [HBad.out]; simp [ct]))
        clear HAll HOne HNo HBad HIH HRow
        go_enter Tryd.func42, Tryd.ntmps42
        go_wp2_with fail
        refine (HLeaf.out _ (by (repeat' (first | (with_reducible exact Below.refl _ _) | (with_reducible assumption) | (with_reducible refine below_drewN ?_ _) | (with_reducible refine Below.alloc ?_ ?_ _) | (with_reducible refine Below.drew ?_) | (with_reducible refine Below.setCell ?_ ?_ _) | go_size)))).mono ?_; rintro e w1 ⟨rfl, hb1⟩
        rw [← HW0.out] at hb1
        have HB01 := Lib.hid hb1
        have HB1 := Lib.hid (k4.trans (hb1.mono k4.size))
        have e20 := (K2.out.keep k3 hb1) 0 _ rfl
        have e21 := (K2.out.keep k3 hb1) 1 _ rfl
        have e22 := (K2.out.keep k3 hb1) 2 _ rfl
        have e23 := (K2.out.keep k3 hb1) 3 _ rfl
        have e24 := (K2.out.keep k3 hb1) 4 _ rfl
        clear hb1
        go_upto_region 3 with fail
        refine wp_region_lit ?_
        iterate 4 (have hh := @list_take; refine hh ?_ ?_ ?_ ?_; rotate_left; exact want_free rfl; go_simp <;> (with_reducible rfl); clear hh; try simp only [pu, pa, pz, ps])
        iterate 3 (have hh := @list_skip; refine hh ?_ ?_; exact want_out true rfl (by kernel_rfl) rfl; clear hh; try simp only [pu, pa, pz, ps])
        iterate 2 (have hh := @list_take; refine hh ?_ ?_ ?_ ?_; rotate_left; exact want_free rfl; go_simp <;> (with_reducible rfl); clear hh; try simp only [pu, pa, pz, ps])
        iterate 4 (have hh := @list_skip; refine hh ?_ ?_; exact want_out true rfl (by kernel_rfl) rfl; clear hh; try simp only [pu, pa, pz, ps])
        iterate 9 (have hh := @list_skip; refine hh ?_ ?_; exact want_undef rfl (by kernel_rfl); clear hh; try simp only [pu, pa, pz, ps])
        iterate 1 (have hh := @list_skip; refine hh ?_ ?_; exact want_out true rfl (by kernel_rfl) rfl; clear hh; try simp only [pu, pa, pz, ps])
        iterate 2 (have hh := @list_take; refine hh ?_ ?_ ?_ ?_; rotate_left; exact want_free rfl; go_simp <;> (with_reducible rfl); clear hh; try simp only [pu, pa, pz, ps])
        iterate 4 (have hh := @list_skip; refine hh ?_ ?_; exact want_out true rfl (by kernel_rfl) rfl; clear hh; try simp only [pu, pa, pz, ps])
        iterate 29 (have hh := @list_skip; refine hh ?_ ?_; exact want_undef rfl (by kernel_rfl); clear hh; try simp only [pu, pa, pz, ps])
        iterate 1 (have hh := @list_skip; refine hh ?_ ?_; exact want_out true rfl (by kernel_rfl) rfl; clear hh; try simp only [pu, pa, pz, ps])
        iterate 2 (have hh := @list_take; refine hh ?_ ?_ ?_ ?_; rotate_left; exact want_free rfl; go_simp <;> (with_reducible rfl); clear hh; try simp only [pu, pa, pz, ps])
        iterate 4 (have hh := @list_skip; refine hh ?_ ?_; exact want_out true rfl (by kernel_rfl) rfl; clear hh; try simp only [pu, pa, pz, ps])
        iterate 3 (have hh := @list_skip; refine hh ?_ ?_; exact want_undef rfl (by kernel_rfl); clear hh; try simp only [pu, pa, pz, ps])
        iterate 1 (have hh := @list_skip; refine hh ?_ ?_; exact want_out true rfl (by kernel_rfl) rfl; clear hh; try simp only [pu, pa, pz, ps])
        iterate 1 (have hh := @list_take; refine hh ?_ ?_ ?_ ?_; rotate_left; exact want_free rfl; go_simp <;> (with_reducible rfl); clear hh; try simp only [pu, pa, pz, ps])
        refine wpList_nil ?_
        go_wp2_with fail
        go_ret
        exact ⟨by rw [HZ.out]; rfl, HB1.out⟩
      subst ct
      by_cases cn : n = 0
      case neg =>
        have qn : (n != 0) = true := by simpa using cn
        have HZ := Lib.hid (HNo.out (by rw [HBad.out]; simp [cn]))
        clear HAll HOne HNo HBad HIH HRow
        go_enter Tryd.func42, Tryd.ntmps42
        go_wp2_with fail
        refine (HLeaf.out _ (by (repeat' (first | (with_reducible exact Below.refl _ _) | (with_reducible assumption) | (with_reducible refine below_drewN ?_ _) | (with_reducible refine Below.alloc ?_ ?_ _) | (with_reducible refine Below.drew ?_) | (with_reducible refine Below.setCell ?_ ?_ _) | go_size)))).mono ?_; rintro e w1 ⟨rfl, hb1⟩
        rw [← HW0.out] at hb1
        have HB01 := Lib.hid hb1
        have HB1 := Lib.hid (k4.trans (hb1.mono k4.size))
        have e20 := (K2.out.keep k3 hb1) 0 _ rfl
        have e21 := (K2.out.keep k3 hb1) 1 _ rfl
        have e22 := (K2.out.keep k3 hb1) 2 _ rfl
        have e23 := (K2.out.keep k3 hb1) 3 _ rfl
        have e24 := (K2.out.keep k3 hb1) 4 _ rfl
        clear hb1
        go_upto_region 3 with fail
        refine wp_region_lit ?_
        iterate 4 (have hh := @list_take; refine hh ?_ ?_ ?_ ?_; rotate_left; exact want_free rfl; go_simp <;> (with_reducible rfl); clear hh; try simp only [pu, pa, pz, ps])
        iterate 3 (have hh := @list_take; refine hh ?_ ?_ ?_ ?_; rotate_left; exact want_in false rfl (by kernel_rfl) rfl; go_simp <;> (with_reducible rfl); clear hh; try simp only [pu, pa, pz, ps])
        iterate 2 (have hh := @list_take; refine hh ?_ ?_ ?_ ?_; rotate_left; exact want_free rfl; go_simp <;> (with_reducible rfl); clear hh; try simp only [pu, pa, pz, ps])
        iterate 4 (have hh := @list_skip; refine hh ?_ ?_; exact want_out true rfl (by kernel_rfl) rfl; clear hh; try simp only [pu, pa, pz, ps])
        iterate 9 (have hh := @list_skip; refine hh ?_ ?_; exact want_undef rfl (by kernel_rfl); clear hh; try simp only [pu, pa, pz, ps])
        iterate 1 (have hh := @list_skip; refine hh ?_ ?_; exact want_out true rfl (by kernel_rfl) rfl; clear hh; try simp only [pu, pa, pz, ps])
        iterate 2 (have hh := @list_take; refine hh ?_ ?_ ?_ ?_; rotate_left; exact want_free rfl; go_simp <;> (with_reducible rfl); clear hh; try simp only [pu, pa, pz, ps])
        iterate 4 (have hh := @list_skip; refine hh ?_ ?_; exact want_out true rfl (by kernel_rfl) rfl; clear hh; try simp only [pu, pa, pz, ps])
        iterate 29 (have hh := @list_skip; refine hh ?_ ?_; exact want_undef rfl (by kernel_rfl); clear hh; try simp only [pu, pa, pz, ps])
        iterate 1 (have hh := @list_skip; refine hh ?_ ?_; exact want_out true rfl (by kernel_rfl) rfl; clear hh; try simp only [pu, pa, pz, ps])
        iterate 2 (have hh := @list_take; refine hh ?_ ?_ ?_ ?_; rotate_left; exact want_free rfl; go_simp <;> (with_reducible rfl); clear hh; try simp only [pu, pa, pz, ps])
        iterate 4 (have hh := @list_skip; refine hh ?_ ?_; exact want_out true rfl (by kernel_rfl) rfl; clear hh; try simp only [pu, pa, pz, ps])
        iterate 3 (have hh := @list_skip; refine hh ?_ ?_; exact want_undef rfl (by kernel_rfl); clear hh; try simp only [pu, pa, pz, ps])
        iterate 1 (have hh := @list_skip; refine hh ?_ ?_; exact want_out true rfl (by kernel_rfl) rfl; clear hh; try simp only [pu, pa, pz, ps])
        iterate 1 (have hh := @list_take; refine hh ?_ ?_ ?_ ?_; rotate_left; exact want_free rfl; go_simp <;> (with_reducible rfl); clear hh; try simp only [pu, pa, pz, ps])
        refine wpList_nil ?_
        go_wp2_with fail
        go_ret
        exact ⟨by rw [HZ.out]; rfl, HB1.out⟩
      subst cn
      by_cases c6 : op = 6
      · subst c6
        by_cases cm : m = 17
        case neg =>
          have qm : (m != 17) = true := by simpa using cm
          have HZ := Lib.hid (HNo.out (by rw [HBad.out]; simp [cm]))
          clear HAll HOne HNo HBad HIH HRow
          go_enter Tryd.func42, Tryd.ntmps42
          go_wp2_with fail
          refine (HLeaf.out _ (by (repeat' (first | (with_reducible exact Below.refl _ _) | (with_reducible assumption) | (with_reducible refine below_drewN ?_ _) | (with_reducible refine Below.alloc ?_ ?_ _) | (with_reducible refine Below.drew ?_) | (with_reducible refine Below.setCell ?_ ?_ _) | go_size)))).mono ?_; rintro e w1 ⟨rfl, hb1⟩
          rw [← HW0.out] at hb1
          have HB01 := Lib.hid hb1
          have HB1 := Lib.hid (k4.trans (hb1.mono k4.size))
          have e20 := (K2.out.keep k3 hb1) 0 _ rfl
          have e21 := (K2.out.keep k3 hb1) 1 _ rfl
          have e22 := (K2.out.keep k3 hb1) 2 _ rfl
          have e23 := (K2.out.keep k3 hb1) 3 _ rfl
          have e24 := (K2.out.keep k3 hb1) 4 _ rfl
          clear hb1
          go_upto_region 3 with fail
          refine wp_region_lit ?_
          iterate 4 (have hh := @list_take; refine hh ?_ ?_ ?_ ?_; rotate_left; exact want_free rfl; go_simp <;> (with_reducible rfl); clear hh; try simp only [pu, pa, pz, ps])
          iterate 3 (have hh := @list_take; refine hh ?_ ?_ ?_ ?_; rotate_left; exact want_in false rfl (by kernel_rfl) rfl; go_simp <;> (with_reducible rfl); clear hh; try simp only [pu, pa, pz, ps])
          iterate 2 (have hh := @list_take; refine hh ?_ ?_ ?_ ?_; rotate_left; exact want_free rfl; go_simp <;> (with_reducible rfl); clear hh; try simp only [pu, pa, pz, ps])
          iterate 4 (have hh := @list_take; refine hh ?_ ?_ ?_ ?_; rotate_left; exact want_in false rfl (by kernel_rfl) rfl; go_simp <;> (with_reducible rfl); clear hh; try simp only [pu, pa, pz, ps])
          iterate 4 (have hh := @list_take; refine hh ?_ ?_ ?_ ?_; rotate_left; exact want_in true rfl (by kernel_rfl) rfl; go_simp <;> (with_reducible rfl); clear hh; try simp only [pu, pa, pz, ps])
          iterate 4 (have hh := @list_skip; refine hh ?_ ?_; exact want_out true rfl (by kernel_rfl) rfl; clear hh; try simp only [pu, pa, pz, ps])
          iterate 1 (have hh := @list_take; refine hh ?_ ?_ ?_ ?_; rotate_left; exact want_in true rfl (by kernel_rfl) rfl; go_simp <;> (with_reducible rfl); clear hh; try simp only [pu, pa, pz, ps])
          iterate 1 (have hh := @list_take; refine hh ?_ ?_ ?_ ?_; rotate_left; exact want_in false rfl (by kernel_rfl) rfl; go_simp <;> (with_reducible rfl); clear hh; try simp only [pu, pa, pz, ps])
          iterate 2 (have hh := @list_take; refine hh ?_ ?_ ?_ ?_; rotate_left; exact want_free rfl; go_simp <;> (with_reducible rfl); clear hh; try simp only [pu, pa, pz, ps])
          iterate 4 (have hh := @list_skip; refine hh ?_ ?_; exact want_out true rfl (by kernel_rfl) rfl; clear hh; try simp only [pu, pa, pz, ps])
          iterate 29 (have hh := @list_skip; refine hh ?_ ?_; exact want_undef rfl (by kernel_rfl); clear hh; try simp only [pu, pa, pz, ps])
          iterate 1 (have hh := @list_skip; refine hh ?_ ?_; exact want_out true rfl (by kernel_rfl) rfl; clear hh; try simp only [pu, pa, pz, ps])
          iterate 2 (have hh := @list_take; refine hh ?_ ?_ ?_ ?_; rotate_left; exact want_free rfl; go_simp <;> (with_reducible rfl); clear hh; try simp only [pu, pa, pz, ps])
          iterate 4 (have hh := @list_skip; refine hh ?_ ?_; exact want_out true rfl (by kernel_rfl) rfl; clear hh; try simp only [pu, pa, pz, ps])
          iterate 3 (have hh := @list_skip; refine hh ?_ ?_; exact want_undef rfl (by kernel_rfl); clear hh; try simp only [pu, pa, pz, ps])
          iterate 1 (have hh := @list_skip; refine hh ?_ ?_; exact want_out true rfl (by kernel_rfl) rfl; clear hh; try simp only [pu, pa, pz, ps])
          iterate 1 (have hh := @list_take; refine hh ?_ ?_ ?_ ?_; rotate_left; exact want_free rfl; go_simp <;> (with_reducible rfl); clear hh; try simp only [pu, pa, pz, ps])
          refine wpList_nil ?_
          go_wp2_with fail
          go_ret
          exact ⟨by rw [HZ.out]; rfl, HB1.out⟩
        subst cm
        by_cases c1 : N = 1
        case neg =>
          have q1 : ((N : Int) != 1) = true := by have h9 : ¬ (N : Int) = 1 := (by omega); simpa using h9
          have HZ := Lib.hid (HNo.out (by rw [HBad.out]; simp [c1]))
          clear HAll HOne HNo HBad HIH HRow
          go_enter Tryd.func42, Tryd.ntmps42
          go_wp2_with fail
          refine (HLeaf.out _ (by (repeat' (first | (with_reducible exact Below.refl _ _) | (with_reducible assumption) | (with_reducible refine below_drewN ?_ _) | (with_reducible refine Below.alloc ?_ ?_ _) | (with_reducible refine Below.drew ?_) | (with_reducible refine Below.setCell ?_ ?_ _) | go_size)))).mono ?_; rintro e w1 ⟨rfl, hb1⟩
          rw [← HW0.out] at hb1
          have HB01 := Lib.hid hb1
          have HB1 := Lib.hid (k4.trans (hb1.mono k4.size))
          have e20 := (K2.out.keep k3 hb1) 0 _ rfl
          have e21 := (K2.out.keep k3 hb1) 1 _ rfl
          have e22 := (K2.out.keep k3 hb1) 2 _ rfl
          have e23 := (K2.out.keep k3 hb1) 3 _ rfl
          have e24 := (K2.out.keep k3 hb1) 4 _ rfl
          clear hb1
          go_upto_region 3 with fail
          refine wp_region_lit ?_
          iterate 4 (have hh := @list_take; refine hh ?_ ?_ ?_ ?_; rotate_left; exact want_free rfl; go_simp <;> (with_reducible rfl); clear hh; try simp only [pu, pa, pz, ps])
          iterate 3 (have hh := @list_take; refine hh ?_ ?_ ?_ ?_; rotate_left; exact want_in false rfl (by kernel_rfl) rfl; go_simp <;> (with_reducible rfl); clear hh; try simp only [pu, pa, pz, ps])
          iterate 2 (have hh := @list_take; refine hh ?_ ?_ ?_ ?_; rotate_left; exact want_free rfl; go_simp <;> (with_reducible rfl); clear hh; try simp only [pu, pa, pz, ps])
          iterate 4 (have hh := @list_take; refine hh ?_ ?_ ?_ ?_; rotate_left; exact want_in false rfl (by kernel_rfl) rfl; go_simp <;> (with_reducible rfl); clear hh; try simp only [pu, pa, pz, ps])
          iterate 4 (have hh := @list_take; refine hh ?_ ?_ ?_ ?_; rotate_left; exact want_in true rfl (by kernel_rfl) rfl; go_simp <;> (with_reducible rfl); clear hh; try simp only [pu, pa, pz, ps])
          iterate 4 (have hh := @list_take; refine hh ?_ ?_ ?_ ?_; rotate_left; exact want_in false rfl (by kernel_rfl) rfl; go_simp <;> (with_reducible rfl); clear hh; try simp only [pu, pa, pz, ps])
          iterate 1 (have hh := @list_take; refine hh ?_ ?_ ?_ ?_; rotate_left; exact want_in true rfl (by kernel_rfl) rfl; go_simp <;> (with_reducible rfl); clear hh; try simp only [pu, pa, pz, ps])
          iterate 1 (have hh := @list_take; refine hh ?_ ?_ ?_ ?_; rotate_left; exact want_in false rfl (by kernel_rfl) rfl; go_simp <;> (with_reducible rfl); clear hh; try simp only [pu, pa, pz, ps])
          iterate 2 (have hh := @list_take; refine hh ?_ ?_ ?_ ?_; rotate_left; exact want_free rfl; go_simp <;> (with_reducible rfl); clear hh; try simp only [pu, pa, pz, ps])
          iterate 4 (have hh := @list_skip; refine hh ?_ ?_; exact want_out true rfl (by kernel_rfl) rfl; clear hh; try simp only [pu, pa, pz, ps])
          iterate 29 (have hh := @list_skip; refine hh ?_ ?_; exact want_undef rfl (by kernel_rfl); clear hh; try simp only [pu, pa, pz, ps])
          iterate 1 (have hh := @list_skip; refine hh ?_ ?_; exact want_out true rfl (by kernel_rfl) rfl; clear hh; try simp only [pu, pa, pz, ps])
          iterate 2 (have hh := @list_take; refine hh ?_ ?_ ?_ ?_; rotate_left; exact want_free rfl; go_simp <;> (with_reducible rfl); clear hh; try simp only [pu, pa, pz, ps])
          iterate 4 (have hh := @list_skip; refine hh ?_ ?_; exact want_out true rfl (by kernel_rfl) rfl; clear hh; try simp only [pu, pa, pz, ps])
          iterate 3 (have hh := @list_skip; refine hh ?_ ?_; exact want_undef rfl (by kernel_rfl); clear hh; try simp only [pu, pa, pz, ps])
          iterate 1 (have hh := @list_skip; refine hh ?_ ?_; exact want_out true rfl (by kernel_rfl) rfl; clear hh; try simp only [pu, pa, pz, ps])
          iterate 1 (have hh := @list_take; refine hh ?_ ?_ ?_ ?_; rotate_left; exact want_free rfl; go_simp <;> (with_reducible rfl); clear hh; try simp only [pu, pa, pz, ps])
          refine wpList_nil ?_
          go_wp2_with fail
          go_ret
          exact ⟨by rw [HZ.out]; rfl, HB1.out⟩
        have q1 : ((N : Int) != 1) = false := by simp; omega
        have C1 := Lib.hid c1
        clear c1
        have HAl := Lib.hid (HAll.out (by rw [HBad.out]; simp [C1.out]))
        clear HAll HNo HBad
        go_enter Tryd.func42, Tryd.ntmps42
        go_wp2_with fail
        refine (HLeaf.out _ (by (repeat' (first | (with_reducible exact Below.refl _ _) | (with_reducible assumption) | (with_reducible refine below_drewN ?_ _) | (with_reducible refine Below.alloc ?_ ?_ _) | (with_reducible refine Below.drew ?_) | (with_reducible refine Below.setCell ?_ ?_ _) | go_size)))).mono ?_; rintro e w1 ⟨rfl, hb1⟩
        rw [← HW0.out] at hb1
        have HB01 := Lib.hid hb1
        have HB1 := Lib.hid (k4.trans (hb1.mono k4.size))
        have e20 := (K2.out.keep k3 hb1) 0 _ rfl
        have e21 := (K2.out.keep k3 hb1) 1 _ rfl
        have e22 := (K2.out.keep k3 hb1) 2 _ rfl
        have e23 := (K2.out.keep k3 hb1) 3 _ rfl
        have e24 := (K2.out.keep k3 hb1) 4 _ rfl
        clear hb1
        go_upto_region 3 with fail
        refine wp_region_lit ?_
        iterate 4 (have hh := @list_take; refine hh ?_ ?_ ?_ ?_; rotate_left; exact want_free rfl; go_simp <;> (with_reducible rfl); clear hh; try simp only [pu, pa, pz, ps])
        iterate 3 (have hh := @list_take; refine hh ?_ ?_ ?_ ?_; rotate_left; exact want_in false rfl (by kernel_rfl) rfl; go_simp <;> (with_reducible rfl); clear hh; try simp only [pu, pa, pz, ps])
        iterate 2 (have hh := @list_take; refine hh ?_ ?_ ?_ ?_; rotate_left; exact want_free rfl; go_simp <;> (with_reducible rfl); clear hh; try simp only [pu, pa, pz, ps])
        iterate 4 (have hh := @list_take; refine hh ?_ ?_ ?_ ?_; rotate_left; exact want_in false rfl (by kernel_rfl) rfl; go_simp <;> (with_reducible rfl); clear hh; try simp only [pu, pa, pz, ps])
        iterate 4 (have hh := @list_take; refine hh ?_ ?_ ?_ ?_; rotate_left; exact want_in true rfl (by kernel_rfl) rfl; go_simp <;> (with_reducible rfl); clear hh; try simp only [pu, pa, pz, ps])
        iterate 4 (have hh := @list_take; refine hh ?_ ?_ ?_ ?_; rotate_left; exact want_in false rfl (by kernel_rfl) rfl; go_simp <;> (with_reducible rfl); clear hh; try simp only [pu, pa, pz, ps])
        iterate 1 (have hh := @list_take; refine hh ?_ ?_ ?_ ?_; rotate_left; exact want_in true rfl (by kernel_rfl) rfl; go_simp <;> (with_reducible rfl); clear hh; try simp only [pu, pa, pz, ps])
        iterate 1 (have hh := @list_take; refine hh ?_ ?_ ?_ ?_; rotate_left; exact want_in false rfl (by kernel_rfl) rfl; go_simp <;> (with_reducible rfl); clear hh; try simp only [pu, pa, pz, ps])
        iterate 2 (have hh := @list_take; refine hh ?_ ?_ ?_ ?_; rotate_left; exact want_free rfl; go_simp <;> (with_reducible rfl); clear hh; try simp only [pu, pa, pz, ps])
        iterate 4 (have hh := @list_take; refine hh ?_ ?_ ?_ ?_; rotate_left; exact want_in false rfl (by kernel_rfl) rfl; go_simp <;> (with_reducible rfl); clear hh; try simp only [pu, pa, pz, ps])
        iterate 5 (have hh := @list_skip; refine hh ?_ ?_; exact want_out false rfl (by kernel_rfl) rfl; clear hh; try simp only [pu, pa, pz, ps])
        iterate 3 (have hh := @list_skip; refine hh ?_ ?_; exact want_undef rfl (by kernel_rfl); clear hh; try simp only [pu, pa, pz, ps])
        iterate 2 (have hh := @list_skip; refine hh ?_ ?_; exact want_out false rfl (by kernel_rfl) rfl; clear hh; try simp only [pu, pa, pz, ps])
        iterate 3 (have hh := @list_skip; refine hh ?_ ?_; exact want_undef rfl (by kernel_rfl); clear hh; try simp only [pu, pa, pz, ps])
        iterate 2 (have hh := @list_skip; refine hh ?_ ?_; exact want_out false rfl (by kernel_rfl) rfl; clear hh; try simp only [pu, pa, pz, ps])
        iterate 3 (have hh := @list_skip; refine hh ?_ ?_; exact want_undef rfl (by kernel_rfl); clear hh; try simp only [pu, pa, pz, ps])
        iterate 2 (have hh := @list_skip; refine hh ?_ ?_; exact want_out false rfl (by kernel_rfl) rfl; clear hh; try simp only [pu, pa, pz, ps])
        iterate 3 (have hh := @list_skip; refine hh ?_ ?_; exact want_undef rfl (by kernel_rfl); clear hh; try simp only [pu, pa, pz, ps])
        iterate 2 (have hh := @list_skip; refine hh ?_ ?_; exact want_out false rfl (by kernel_rfl) rfl; clear hh; try simp only [pu, pa, pz, ps])
        iterate 3 (have hh := @list_skip; refine hh ?_ ?_; exact want_undef rfl (by kernel_rfl); clear hh; try simp only [pu, pa, pz, ps])
        iterate 1 (have hh := @list_skip; refine hh ?_ ?_; exact want_out false rfl (by kernel_rfl) rfl; clear hh; try simp only [pu, pa, pz, ps])
        iterate 1 (have hh := @list_take; refine hh ?_ ?_ ?_ ?_; rotate_left; exact want_in false rfl (by kernel_rfl) rfl; go_simp <;> (with_reducible rfl); clear hh; try simp only [pu, pa, pz, ps])
        iterate 2 (have hh := @list_take; refine hh ?_ ?_ ?_ ?_; rotate_left; exact want_free rfl; go_simp <;> (with_reducible rfl); clear hh; try simp only [pu, pa, pz, ps])
        iterate 4 (have hh := @list_take; refine hh ?_ ?_ ?_ ?_; rotate_left; exact want_in false rfl (by kernel_rfl) rfl; go_simp <;> (with_reducible rfl); clear hh; try simp only [pu, pa, pz, ps])
        iterate 3 (have hh := @list_skip; refine hh ?_ ?_; exact want_out false rfl (by kernel_rfl) rfl; clear hh; try simp only [pu, pa, pz, ps])
        iterate 1 (have hh := @list_take; refine hh ?_ ?_ ?_ ?_; rotate_left; exact want_in false rfl (by kernel_rfl) rfl; go_simp <;> (with_reducible rfl); clear hh; try simp only [pu, pa, pz, ps])
        iterate 1 (have hh := @list_take; refine hh ?_ ?_ ?_ ?_; rotate_left; exact want_free rfl; go_simp <;> (with_reducible rfl); clear hh; try simp only [pu, pa, pz, ps])
        refine wpList_nil ?_
        go_wp2_with fail
        clear e20 e21 e22 e23 e24
        go_loopw [5] (fun jj wr => ∃ k : Nat, k ≤ N ∧ jj = .int .i64 k ∧ Hid (∀ x ∈ l.take k, truE s x = true) ∧ Hid (Below W0.heap.size W0 wr)) (fun jj _ => N - (intOf jj).toNat)
        case atStart => exact ⟨0, Nat.zero_le _, rfl, Lib.hid (by simp), HB01⟩
        case round =>
          obtain ⟨k, hk, rfl, hall, HB⟩ := hrel
          have e00 := (K1.out.keep z1 HB.out) 0 _ rfl
          have e01 := (K1.out.keep z1 HB.out) 1 _ rfl
          have e02 := (K1.out.keep z1 HB.out) 2 _ rfl
          have e03 := (K1.out.keep z1 HB.out) 3 _ rfl
          have e24 := (K2.out.keep k3 HB.out) 4 _ rfl
          have y1 : w.heap.size < wr.heap.size := Nat.lt_of_lt_of_le z1 HB.out.size
          have y2 : w.heap.size + 1 < wr.heap.size := Nat.lt_of_lt_of_le k3 HB.out.size
          have hBw := k4.trans (HB.out.mono k4.size)
          have HBw := Lib.hid hBw
          by_cases hlt : k < N
          · obtain ⟨x, hx⟩ := get_some (L := l) (n := k) (by have := HN.out; omega)
            obtain ⟨bx, ox, ss, sn, sc2, rfl, hbx, _, _, d0, d1, d2, d3, d4, dV⟩ := ex_at HRow.out hx
            have c0 := (hBw.cell (p := ⟨bx, ox + k * 5, none⟩) hbx).trans d0
            have c1 := (hBw.cell (p := ⟨bx, ox + k * 5 + 1, none⟩) hbx).trans d1
            have c2 := (hBw.cell (p := ⟨bx, ox + k * 5 + 2, none⟩) hbx).trans d2
            have c3 := (hBw.cell (p := ⟨bx, ox + k * 5 + 3, none⟩) hbx).trans d3
            have c4 := (hBw.cell (p := ⟨bx, ox + k * 5 + 4, none⟩) hbx).trans d4
            have yb : bx < wr.heap.size := Nat.lt_of_lt_of_le hbx hBw.size
            have HVx := Lib.hid (fun W (hb : Below wr.heap.size wr W) => (dV.below hBw).below hb)
            have HX := Lib.hid (HIH.out x (List.mem_of_getElem? hx))
            have HNx := Lib.hid (HOne.out x (List.mem_of_getElem? hx))
            have HTk := Lib.hid (show truE s x = true → ∀ y ∈ l.take (k + 1), truE s y = true from fun h y hy => by
              rw [List.take_add_one, hx] at hy
              rcases List.mem_append.1 hy with hy | hy
              · exact hall.out y hy
              · rw [show y = x by simpa using hy]; exact h)
            have r1 : ((k : Int) < (N : Int)) = True := eq_true (by omega)
            have r1' : (k < N) = True := eq_true hlt
            clear d0 d1 d2 d3 d4 dV hBw hbx hx
            generalize truE s x = zx at *
            obtain ⟨xop, xt, xn, xm, xl⟩ := x
            simp only at c0 c1 c2 c3 HVx HX
            cases zx with
            | true =>
              have hT := Lib.hid (HTk.out rfl)
              clear HTk HNx
              go_wp2_with fail
              have qq0 := fun wt (h : Below wr.heap.size wr wt) => cellB h e00 y1
              have qq1 := fun wt (h : Below wr.heap.size wr wt) => cellB h e01 y1
              have qq2 := fun wt (h : Below wr.heap.size wr wt) => cellB h e02 y1
              have qq3 := fun wt (h : Below wr.heap.size wr wt) => cellB h e03 y1
              have qq4 := fun wt (h : Below wr.heap.size wr wt) => cellB h e24 y2
              have qq5 := fun wt (h : Below wr.heap.size wr wt) => cellB h c0 yb
              have qq6 := fun wt (h : Below wr.heap.size wr wt) => cellB h c1 yb
              have qq7 := fun wt (h : Below wr.heap.size wr wt) => cellB h c2 yb
              have qq8 := fun wt (h : Below wr.heap.size wr wt) => cellB h c3 yb
              have qq9 := fun wt (h : Below wr.heap.size wr wt) => cellB h c4 yb
              refine wp_region_held_drew (S := (fun w' => Below wr.heap.size wr w')) (by kernel_rfl) ?_ (fun hHeld => ?_)
              · (try dsimp only); first | assumption | exact Below.alloc hHeld hHeld.size _ | exact (Below.refl _ _).drew | exact Below.drew (Below.refl _ _) | exact Below_drewN _ _ _ | exact Below.refl _ _
              refine tk 0 (v := ?_) (hy := ?_) (h := ?_); rotate_left
              · intro wt hSw; (try dsimp only at hSw); go_simp <;> with_reducible rfl
              try simp only [pu, pa, pz, ps]
              refine tk 1 (v := ?_) (hy := ?_) (h := ?_); rotate_left
              · intro _ _; go_simp <;> with_reducible rfl
              try simp only [pu, pa, pz, ps]
              refine tk 2 (v := ?_) (hy := ?_) (h := ?_); rotate_left
              · intro wt hSw; (try dsimp only at hSw); go_simp <;> with_reducible rfl
              try simp only [pu, pa, pz, ps]
              refine tk 3 (v := ?_) (hy := ?_) (h := ?_); rotate_left
              · intro _ _; go_simp <;> with_reducible rfl
              try simp only [pu, pa, pz, ps]
              refine tk 4 (v := ?_) (hy := ?_) (h := ?_); rotate_left
              · intro _ _; go_simp <;> with_reducible rfl
              try simp only [pu, pa, pz, ps]
              refine tk 5 (v := ?_) (hy := ?_) (h := ?_); rotate_left
              · intro wt hSw; (try dsimp only at hSw); go_simp <;> with_reducible rfl
              try simp only [pu, pa, pz, ps]
              refine wpAnyH_ready (rs := [6]) (by kernel_rfl) (by simp) ?_
              refine AllReadyH.cons (o := ⟨_, _, _, _, _, _⟩) rfl (fun K hK => ?_) AllReadyH.nil
              go_simp
              refine (HX.out _ _ (HBw.out.trans (hHeld.mono HBw.out.size)) (HVx.out _ hHeld)).mono ?_; rintro e v2 ⟨rfl, hb2⟩; have hHeld := hHeld.trans (hb2.mono hHeld.size); clear hb2
              go_wp2_with fail
              refine hK.out _ _ ?_ (fun hHeld => ?_)
              · (try dsimp only); first | assumption | exact Below.alloc hHeld hHeld.size _ | exact (Below.refl _ _).drew | exact Below.drew (Below.refl _ _) | exact Below_drewN _ _ _ | exact Below.refl _ _
              clear hK K
              try simp only [pu, pa, pz, ps]
              refine tk 7 (v := ?_) (hy := ?_) (h := ?_); rotate_left
              · intro _ _; go_simp <;> with_reducible rfl
              try simp only [pu, pa, pz, ps]
              refine wpAnyH_done (by kernel_rfl) ?_ _
              have HBn := Lib.hid (HB.out.trans (hHeld.mono HB.out.size))
              go_wp2_with fail
              go_roundw
              case rel => exact ⟨k + 1, by omega, by simp, hT, HBn⟩
              case measure => first | (simp [intOf]; done) | (simp [intOf]; omega)
            | false =>
              have HZ := Lib.hid (HNx.out rfl)
              clear HTk HNx
              go_wp2_with fail
              have qq0 := fun wt (h : Below wr.heap.size wr wt) => cellB h e00 y1
              have qq1 := fun wt (h : Below wr.heap.size wr wt) => cellB h e01 y1
              have qq2 := fun wt (h : Below wr.heap.size wr wt) => cellB h e02 y1
              have qq3 := fun wt (h : Below wr.heap.size wr wt) => cellB h e03 y1
              have qq4 := fun wt (h : Below wr.heap.size wr wt) => cellB h e24 y2
              have qq5 := fun wt (h : Below wr.heap.size wr wt) => cellB h c0 yb
              have qq6 := fun wt (h : Below wr.heap.size wr wt) => cellB h c1 yb
              have qq7 := fun wt (h : Below wr.heap.size wr wt) => cellB h c2 yb
              have qq8 := fun wt (h : Below wr.heap.size wr wt) => cellB h c3 yb
              have qq9 := fun wt (h : Below wr.heap.size wr wt) => cellB h c4 yb
              refine wp_region_held_drew (S := (fun w' => Below wr.heap.size wr w')) (by kernel_rfl) ?_ (fun hHeld => ?_)
              · (try dsimp only); first | assumption | exact Below.alloc hHeld hHeld.size _ | exact (Below.refl _ _).drew | exact Below.drew (Below.refl _ _) | exact Below_drewN _ _ _ | exact Below.refl _ _
              refine tk 0 (v := ?_) (hy := ?_) (h := ?_); rotate_left
              · intro wt hSw; (try dsimp only at hSw); go_simp <;> with_reducible rfl
              try simp only [pu, pa, pz, ps]
              refine tk 1 (v := ?_) (hy := ?_) (h := ?_); rotate_left
              · intro _ _; go_simp <;> with_reducible rfl
              try simp only [pu, pa, pz, ps]
              refine tk 2 (v := ?_) (hy := ?_) (h := ?_); rotate_left
              · intro wt hSw; (try dsimp only at hSw); go_simp <;> with_reducible rfl
              try simp only [pu, pa, pz, ps]
              refine tk 3 (v := ?_) (hy := ?_) (h := ?_); rotate_left
              · intro _ _; go_simp <;> with_reducible rfl
              try simp only [pu, pa, pz, ps]
              refine tk 4 (v := ?_) (hy := ?_) (h := ?_); rotate_left
              · intro _ _; go_simp <;> with_reducible rfl
              try simp only [pu, pa, pz, ps]
              refine tk 5 (v := ?_) (hy := ?_) (h := ?_); rotate_left
              · intro wt hSw; (try dsimp only at hSw); go_simp <;> with_reducible rfl
              try simp only [pu, pa, pz, ps]
              refine wpAnyH_ready (rs := [6]) (by kernel_rfl) (by simp) ?_
              refine AllReadyH.cons (o := ⟨_, _, _, _, _, _⟩) rfl (fun K hK => ?_) AllReadyH.nil
              go_simp
              refine (HX.out _ _ (HBw.out.trans (hHeld.mono HBw.out.size)) (HVx.out _ hHeld)).mono ?_; rintro e v2 ⟨rfl, hb2⟩; have hHeld := hHeld.trans (hb2.mono hHeld.size); clear hb2
              go_wp2_with fail
              refine hK.out _ _ ?_ (fun hHeld => ?_)
              · (try dsimp only); first | assumption | exact Below.alloc hHeld hHeld.size _ | exact (Below.refl _ _).drew | exact Below.drew (Below.refl _ _) | exact Below_drewN _ _ _ | exact Below.refl _ _
              clear hK K
              try simp only [pu, pa, pz, ps]
              refine tk 7 (v := ?_) (hy := ?_) (h := ?_); rotate_left
              · intro _ _; go_simp <;> with_reducible rfl
              try simp only [pu, pa, pz, ps]
              refine wpAnyH_done (by kernel_rfl) ?_ _
              have HBn := Lib.hid (HBw.out.trans (hHeld.mono HBw.out.size))
              go_wp2_with fail
              go_ret
              exact ⟨by rw [HZ.out]; rfl, HBn.out⟩
          · obtain rfl : k = N := by omega
            have r1 : ((k : Int) < (k : Int)) = False := eq_false (by omega)
            have HZ := Lib.hid (HAl.out (by have := hall.out; rwa [List.take_of_length_le (by rw [HN.out]; exact Nat.le_refl _)] at this))
            go_wp2_with fail
            go_ret
            exact ⟨by rw [HZ.out]; rfl, HBw.out⟩
      have p6 : (op == 6) = false := beq_eq_false_iff_ne.2 c6
      have p6' : (op != 6) = true := by simpa using c6
      by_cases c7 : op = 7
      case neg =>
        have p7 : (op == 7) = false := beq_eq_false_iff_ne.2 c7
        have p7' : (op != 7) = true := by simpa using c7
        have HZ := Lib.hid (HNo.out (by rw [HBad.out]; simp [c6, c7]))
        clear HAll HOne HNo HBad HIH HRow
        go_enter Tryd.func42, Tryd.ntmps42
        go_wp2_with fail
        refine (HLeaf.out _ (by (repeat' (first | (with_reducible exact Below.refl _ _) | (with_reducible assumption) | (with_reducible refine below_drewN ?_ _) | (with_reducible refine Below.alloc ?_ ?_ _) | (with_reducible refine Below.drew ?_) | (with_reducible refine Below.setCell ?_ ?_ _) | go_size)))).mono ?_; rintro e w1 ⟨rfl, hb1⟩
        rw [← HW0.out] at hb1
        have HB01 := Lib.hid hb1
        have HB1 := Lib.hid (k4.trans (hb1.mono k4.size))
        have e20 := (K2.out.keep k3 hb1) 0 _ rfl
        have e21 := (K2.out.keep k3 hb1) 1 _ rfl
        have e22 := (K2.out.keep k3 hb1) 2 _ rfl
        have e23 := (K2.out.keep k3 hb1) 3 _ rfl
        have e24 := (K2.out.keep k3 hb1) 4 _ rfl
        clear hb1
        go_upto_region 3 with fail
        refine wp_region_lit ?_
        iterate 4 (have hh := @list_take; refine hh ?_ ?_ ?_ ?_; rotate_left; exact want_free rfl; go_simp <;> (with_reducible rfl); clear hh; try simp only [pu, pa, pz, ps])
        iterate 3 (have hh := @list_take; refine hh ?_ ?_ ?_ ?_; rotate_left; exact want_in false rfl (by kernel_rfl) rfl; go_simp <;> (with_reducible rfl); clear hh; try simp only [pu, pa, pz, ps])
        iterate 2 (have hh := @list_take; refine hh ?_ ?_ ?_ ?_; rotate_left; exact want_free rfl; go_simp <;> (with_reducible rfl); clear hh; try simp only [pu, pa, pz, ps])
        iterate 4 (have hh := @list_take; refine hh ?_ ?_ ?_ ?_; rotate_left; exact want_in false rfl (by kernel_rfl) rfl; go_simp <;> (with_reducible rfl); clear hh; try simp only [pu, pa, pz, ps])
        iterate 4 (have hh := @list_skip; refine hh ?_ ?_; exact want_out false rfl (by kernel_rfl) rfl; clear hh; try simp only [pu, pa, pz, ps])
        iterate 4 (have hh := @list_skip; refine hh ?_ ?_; exact want_undef rfl (by kernel_rfl); clear hh; try simp only [pu, pa, pz, ps])
        iterate 1 (have hh := @list_skip; refine hh ?_ ?_; exact want_out false rfl (by kernel_rfl) rfl; clear hh; try simp only [pu, pa, pz, ps])
        iterate 1 (have hh := @list_take; refine hh ?_ ?_ ?_ ?_; rotate_left; exact want_in false rfl (by kernel_rfl) rfl; go_simp <;> (with_reducible rfl); clear hh; try simp only [pu, pa, pz, ps])
        iterate 2 (have hh := @list_take; refine hh ?_ ?_ ?_ ?_; rotate_left; exact want_free rfl; go_simp <;> (with_reducible rfl); clear hh; try simp only [pu, pa, pz, ps])
        iterate 4 (have hh := @list_take; refine hh ?_ ?_ ?_ ?_; rotate_left; exact want_in false rfl (by kernel_rfl) rfl; go_simp <;> (with_reducible rfl); clear hh; try simp only [pu, pa, pz, ps])
        iterate 5 (have hh := @list_skip; refine hh ?_ ?_; exact want_out false rfl (by kernel_rfl) rfl; clear hh; try simp only [pu, pa, pz, ps])
        iterate 3 (have hh := @list_skip; refine hh ?_ ?_; exact want_undef rfl (by kernel_rfl); clear hh; try simp only [pu, pa, pz, ps])
        iterate 2 (have hh := @list_skip; refine hh ?_ ?_; exact want_out false rfl (by kernel_rfl) rfl; clear hh; try simp only [pu, pa, pz, ps])
        iterate 3 (have hh := @list_skip; refine hh ?_ ?_; exact want_undef rfl (by kernel_rfl); clear hh; try simp only [pu, pa, pz, ps])
        iterate 2 (have hh := @list_skip; refine hh ?_ ?_; exact want_out false rfl (by kernel_rfl) rfl; clear hh; try simp only [pu, pa, pz, ps])
        iterate 3 (have hh := @list_skip; refine hh ?_ ?_; exact want_undef rfl (by kernel_rfl); clear hh; try simp only [pu, pa, pz, ps])
        iterate 2 (have hh := @list_skip; refine hh ?_ ?_; exact want_out false rfl (by kernel_rfl) rfl; clear hh; try simp only [pu, pa, pz, ps])
        iterate 3 (have hh := @list_skip; refine hh ?_ ?_; exact want_undef rfl (by kernel_rfl); clear hh; try simp only [pu, pa, pz, ps])
        iterate 2 (have hh := @list_skip; refine hh ?_ ?_; exact want_out false rfl (by kernel_rfl) rfl; clear hh; try simp only [pu, pa, pz, ps])
        iterate 3 (have hh := @list_skip; refine hh ?_ ?_; exact want_undef rfl (by kernel_rfl); clear hh; try simp only [pu, pa, pz, ps])
        iterate 1 (have hh := @list_skip; refine hh ?_ ?_; exact want_out false rfl (by kernel_rfl) rfl; clear hh; try simp only [pu, pa, pz, ps])
        iterate 1 (have hh := @list_take; refine hh ?_ ?_ ?_ ?_; rotate_left; exact want_in false rfl (by kernel_rfl) rfl; go_simp <;> (with_reducible rfl); clear hh; try simp only [pu, pa, pz, ps])
        iterate 2 (have hh := @list_take; refine hh ?_ ?_ ?_ ?_; rotate_left; exact want_free rfl; go_simp <;> (with_reducible rfl); clear hh; try simp only [pu, pa, pz, ps])
        iterate 4 (have hh := @list_take; refine hh ?_ ?_ ?_ ?_; rotate_left; exact want_in false rfl (by kernel_rfl) rfl; go_simp <;> (with_reducible rfl); clear hh; try simp only [pu, pa, pz, ps])
        iterate 3 (have hh := @list_take; refine hh ?_ ?_ ?_ ?_; rotate_left; exact want_in true rfl (by kernel_rfl) rfl; go_simp <;> (with_reducible rfl); clear hh; try simp only [pu, pa, pz, ps])
        iterate 1 (have hh := @list_take; refine hh ?_ ?_ ?_ ?_; rotate_left; exact want_in false rfl (by kernel_rfl) rfl; go_simp <;> (with_reducible rfl); clear hh; try simp only [pu, pa, pz, ps])
        iterate 1 (have hh := @list_take; refine hh ?_ ?_ ?_ ?_; rotate_left; exact want_free rfl; go_simp <;> (with_reducible rfl); clear hh; try simp only [pu, pa, pz, ps])
        refine wpList_nil ?_
        go_wp2_with fail
        go_ret
        exact ⟨by rw [HZ.out]; rfl, HB1.out⟩
      subst c7
      by_cases c2 : N = 2
      case neg =>
        have q2 : ((N : Int) != 2) = true := by have h9 : ¬ (N : Int) = 2 := (by omega); simpa using h9
        have HZ := Lib.hid (HNo.out (by rw [HBad.out]; simp [c2]))
        clear HAll HOne HNo HBad HIH HRow
        go_enter Tryd.func42, Tryd.ntmps42
        go_wp2_with fail
        refine (HLeaf.out _ (by (repeat' (first | (with_reducible exact Below.refl _ _) | (with_reducible assumption) | (with_reducible refine below_drewN ?_ _) | (with_reducible refine Below.alloc ?_ ?_ _) | (with_reducible refine Below.drew ?_) | (with_reducible refine Below.setCell ?_ ?_ _) | go_size)))).mono ?_; rintro e w1 ⟨rfl, hb1⟩
        rw [← HW0.out] at hb1
        have HB01 := Lib.hid hb1
        have HB1 := Lib.hid (k4.trans (hb1.mono k4.size))
        have e20 := (K2.out.keep k3 hb1) 0 _ rfl
        have e21 := (K2.out.keep k3 hb1) 1 _ rfl
        have e22 := (K2.out.keep k3 hb1) 2 _ rfl
        have e23 := (K2.out.keep k3 hb1) 3 _ rfl
        have e24 := (K2.out.keep k3 hb1) 4 _ rfl
        clear hb1
        go_upto_region 3 with fail
        refine wp_region_lit ?_
        iterate 4 (have hh := @list_take; refine hh ?_ ?_ ?_ ?_; rotate_left; exact want_free rfl; go_simp <;> (with_reducible rfl); clear hh; try simp only [pu, pa, pz, ps])
        iterate 3 (have hh := @list_take; refine hh ?_ ?_ ?_ ?_; rotate_left; exact want_in false rfl (by kernel_rfl) rfl; go_simp <;> (with_reducible rfl); clear hh; try simp only [pu, pa, pz, ps])
        iterate 2 (have hh := @list_take; refine hh ?_ ?_ ?_ ?_; rotate_left; exact want_free rfl; go_simp <;> (with_reducible rfl); clear hh; try simp only [pu, pa, pz, ps])
        iterate 4 (have hh := @list_take; refine hh ?_ ?_ ?_ ?_; rotate_left; exact want_in false rfl (by kernel_rfl) rfl; go_simp <;> (with_reducible rfl); clear hh; try simp only [pu, pa, pz, ps])
        iterate 4 (have hh := @list_skip; refine hh ?_ ?_; exact want_out false rfl (by kernel_rfl) rfl; clear hh; try simp only [pu, pa, pz, ps])
        iterate 4 (have hh := @list_skip; refine hh ?_ ?_; exact want_undef rfl (by kernel_rfl); clear hh; try simp only [pu, pa, pz, ps])
        iterate 1 (have hh := @list_skip; refine hh ?_ ?_; exact want_out false rfl (by kernel_rfl) rfl; clear hh; try simp only [pu, pa, pz, ps])
        iterate 1 (have hh := @list_take; refine hh ?_ ?_ ?_ ?_; rotate_left; exact want_in false rfl (by kernel_rfl) rfl; go_simp <;> (with_reducible rfl); clear hh; try simp only [pu, pa, pz, ps])
        iterate 2 (have hh := @list_take; refine hh ?_ ?_ ?_ ?_; rotate_left; exact want_free rfl; go_simp <;> (with_reducible rfl); clear hh; try simp only [pu, pa, pz, ps])
        iterate 4 (have hh := @list_take; refine hh ?_ ?_ ?_ ?_; rotate_left; exact want_in false rfl (by kernel_rfl) rfl; go_simp <;> (with_reducible rfl); clear hh; try simp only [pu, pa, pz, ps])
        iterate 5 (have hh := @list_take; refine hh ?_ ?_ ?_ ?_; rotate_left; exact want_in true rfl (by kernel_rfl) rfl; go_simp <;> (with_reducible rfl); clear hh; try simp only [pu, pa, pz, ps])
        iterate 3 (have hh := @list_skip; refine hh ?_ ?_; exact want_out true rfl (by kernel_rfl) rfl; clear hh; try simp only [pu, pa, pz, ps])
        iterate 2 (have hh := @list_take; refine hh ?_ ?_ ?_ ?_; rotate_left; exact want_in true rfl (by kernel_rfl) rfl; go_simp <;> (with_reducible rfl); clear hh; try simp only [pu, pa, pz, ps])
        iterate 3 (have hh := @list_skip; refine hh ?_ ?_; exact want_out true rfl (by kernel_rfl) rfl; clear hh; try simp only [pu, pa, pz, ps])
        iterate 2 (have hh := @list_take; refine hh ?_ ?_ ?_ ?_; rotate_left; exact want_in true rfl (by kernel_rfl) rfl; go_simp <;> (with_reducible rfl); clear hh; try simp only [pu, pa, pz, ps])
        iterate 3 (have hh := @list_skip; refine hh ?_ ?_; exact want_out true rfl (by kernel_rfl) rfl; clear hh; try simp only [pu, pa, pz, ps])
        iterate 2 (have hh := @list_take; refine hh ?_ ?_ ?_ ?_; rotate_left; exact want_in true rfl (by kernel_rfl) rfl; go_simp <;> (with_reducible rfl); clear hh; try simp only [pu, pa, pz, ps])
        iterate 3 (have hh := @list_skip; refine hh ?_ ?_; exact want_out true rfl (by kernel_rfl) rfl; clear hh; try simp only [pu, pa, pz, ps])
        iterate 2 (have hh := @list_take; refine hh ?_ ?_ ?_ ?_; rotate_left; exact want_in true rfl (by kernel_rfl) rfl; go_simp <;> (with_reducible rfl); clear hh; try simp only [pu, pa, pz, ps])
        iterate 3 (have hh := @list_skip; refine hh ?_ ?_; exact want_out true rfl (by kernel_rfl) rfl; clear hh; try simp only [pu, pa, pz, ps])
        iterate 1 (have hh := @list_take; refine hh ?_ ?_ ?_ ?_; rotate_left; exact want_in true rfl (by kernel_rfl) rfl; go_simp <;> (with_reducible rfl); clear hh; try simp only [pu, pa, pz, ps])
        iterate 1 (have hh := @list_take; refine hh ?_ ?_ ?_ ?_; rotate_left; exact want_in false rfl (by kernel_rfl) rfl; go_simp <;> (with_reducible rfl); clear hh; try simp only [pu, pa, pz, ps])
        iterate 2 (have hh := @list_take; refine hh ?_ ?_ ?_ ?_; rotate_left; exact want_free rfl; go_simp <;> (with_reducible rfl); clear hh; try simp only [pu, pa, pz, ps])
        iterate 4 (have hh := @list_skip; refine hh ?_ ?_; exact want_out true rfl (by kernel_rfl) rfl; clear hh; try simp only [pu, pa, pz, ps])
        iterate 3 (have hh := @list_skip; refine hh ?_ ?_; exact want_undef rfl (by kernel_rfl); clear hh; try simp only [pu, pa, pz, ps])
        iterate 1 (have hh := @list_skip; refine hh ?_ ?_; exact want_out true rfl (by kernel_rfl) rfl; clear hh; try simp only [pu, pa, pz, ps])
        iterate 1 (have hh := @list_take; refine hh ?_ ?_ ?_ ?_; rotate_left; exact want_free rfl; go_simp <;> (with_reducible rfl); clear hh; try simp only [pu, pa, pz, ps])
        refine wpList_nil ?_
        go_wp2_with fail
        go_ret
        exact ⟨by rw [HZ.out]; rfl, HB1.out⟩
      have q2 : ((N : Int) != 2) = false := by simp; omega
      have C2 := Lib.hid c2
      clear c2
      by_cases ca : m < 14
      case pos =>
        have qa : (m < 14) = True := eq_true ca
        have HZ := Lib.hid (HNo.out (by rw [HBad.out]; simp [ca, C2.out]))
        clear HAll HOne HNo HBad HIH HRow
        go_enter Tryd.func42, Tryd.ntmps42
        go_wp2_with fail
        refine (HLeaf.out _ (by (repeat' (first | (with_reducible exact Below.refl _ _) | (with_reducible assumption) | (with_reducible refine below_drewN ?_ _) | (with_reducible refine Below.alloc ?_ ?_ _) | (with_reducible refine Below.drew ?_) | (with_reducible refine Below.setCell ?_ ?_ _) | go_size)))).mono ?_; rintro e w1 ⟨rfl, hb1⟩
        rw [← HW0.out] at hb1
        have HB01 := Lib.hid hb1
        have HB1 := Lib.hid (k4.trans (hb1.mono k4.size))
        have e20 := (K2.out.keep k3 hb1) 0 _ rfl
        have e21 := (K2.out.keep k3 hb1) 1 _ rfl
        have e22 := (K2.out.keep k3 hb1) 2 _ rfl
        have e23 := (K2.out.keep k3 hb1) 3 _ rfl
        have e24 := (K2.out.keep k3 hb1) 4 _ rfl
        clear hb1
        go_upto_region 3 with fail
        refine wp_region_lit ?_
        iterate 4 (have hh := @list_take; refine hh ?_ ?_ ?_ ?_; rotate_left; exact want_free rfl; go_simp <;> (with_reducible rfl); clear hh; try simp only [pu, pa, pz, ps])
        iterate 3 (have hh := @list_take; refine hh ?_ ?_ ?_ ?_; rotate_left; exact want_in false rfl (by kernel_rfl) rfl; go_simp <;> (with_reducible rfl); clear hh; try simp only [pu, pa, pz, ps])
        iterate 2 (have hh := @list_take; refine hh ?_ ?_ ?_ ?_; rotate_left; exact want_free rfl; go_simp <;> (with_reducible rfl); clear hh; try simp only [pu, pa, pz, ps])
        iterate 4 (have hh := @list_take; refine hh ?_ ?_ ?_ ?_; rotate_left; exact want_in false rfl (by kernel_rfl) rfl; go_simp <;> (with_reducible rfl); clear hh; try simp only [pu, pa, pz, ps])
        iterate 4 (have hh := @list_skip; refine hh ?_ ?_; exact want_out false rfl (by kernel_rfl) rfl; clear hh; try simp only [pu, pa, pz, ps])
        iterate 4 (have hh := @list_skip; refine hh ?_ ?_; exact want_undef rfl (by kernel_rfl); clear hh; try simp only [pu, pa, pz, ps])
        iterate 1 (have hh := @list_skip; refine hh ?_ ?_; exact want_out false rfl (by kernel_rfl) rfl; clear hh; try simp only [pu, pa, pz, ps])
        iterate 1 (have hh := @list_take; refine hh ?_ ?_ ?_ ?_; rotate_left; exact want_in false rfl (by kernel_rfl) rfl; go_simp <;> (with_reducible rfl); clear hh; try simp only [pu, pa, pz, ps])
        iterate 2 (have hh := @list_take; refine hh ?_ ?_ ?_ ?_; rotate_left; exact want_free rfl; go_simp <;> (with_reducible rfl); clear hh; try simp only [pu, pa, pz, ps])
        iterate 4 (have hh := @list_take; refine hh ?_ ?_ ?_ ?_; rotate_left; exact want_in false rfl (by kernel_rfl) rfl; go_simp <;> (with_reducible rfl); clear hh; try simp only [pu, pa, pz, ps])
        iterate 5 (have hh := @list_take; refine hh ?_ ?_ ?_ ?_; rotate_left; exact want_in true rfl (by kernel_rfl) rfl; go_simp <;> (with_reducible rfl); clear hh; try simp only [pu, pa, pz, ps])
        iterate 3 (have hh := @list_take; refine hh ?_ ?_ ?_ ?_; rotate_left; exact want_in false rfl (by kernel_rfl) rfl; go_simp <;> (with_reducible rfl); clear hh; try simp only [pu, pa, pz, ps])
        iterate 2 (have hh := @list_take; refine hh ?_ ?_ ?_ ?_; rotate_left; exact want_in true rfl (by kernel_rfl) rfl; go_simp <;> (with_reducible rfl); clear hh; try simp only [pu, pa, pz, ps])
        iterate 3 (have hh := @list_skip; refine hh ?_ ?_; exact want_out true rfl (by kernel_rfl) rfl; clear hh; try simp only [pu, pa, pz, ps])
        iterate 2 (have hh := @list_take; refine hh ?_ ?_ ?_ ?_; rotate_left; exact want_in true rfl (by kernel_rfl) rfl; go_simp <;> (with_reducible rfl); clear hh; try simp only [pu, pa, pz, ps])
        iterate 3 (have hh := @list_skip; refine hh ?_ ?_; exact want_out true rfl (by kernel_rfl) rfl; clear hh; try simp only [pu, pa, pz, ps])
        iterate 2 (have hh := @list_take; refine hh ?_ ?_ ?_ ?_; rotate_left; exact want_in true rfl (by kernel_rfl) rfl; go_simp <;> (with_reducible rfl); clear hh; try simp only [pu, pa, pz, ps])
        iterate 3 (have hh := @list_skip; refine hh ?_ ?_; exact want_out true rfl (by kernel_rfl) rfl; clear hh; try simp only [pu, pa, pz, ps])
        iterate 2 (have hh := @list_take; refine hh ?_ ?_ ?_ ?_; rotate_left; exact want_in true rfl (by kernel_rfl) rfl; go_simp <;> (with_reducible rfl); clear hh; try simp only [pu, pa, pz, ps])
        iterate 3 (have hh := @list_skip; refine hh ?_ ?_; exact want_out true rfl (by kernel_rfl) rfl; clear hh; try simp only [pu, pa, pz, ps])
        iterate 1 (have hh := @list_take; refine hh ?_ ?_ ?_ ?_; rotate_left; exact want_in true rfl (by kernel_rfl) rfl; go_simp <;> (with_reducible rfl); clear hh; try simp only [pu, pa, pz, ps])
        iterate 1 (have hh := @list_take; refine hh ?_ ?_ ?_ ?_; rotate_left; exact want_in false rfl (by kernel_rfl) rfl; go_simp <;> (with_reducible rfl); clear hh; try simp only [pu, pa, pz, ps])
        iterate 2 (have hh := @list_take; refine hh ?_ ?_ ?_ ?_; rotate_left; exact want_free rfl; go_simp <;> (with_reducible rfl); clear hh; try simp only [pu, pa, pz, ps])
        iterate 4 (have hh := @list_skip; refine hh ?_ ?_; exact want_out true rfl (by kernel_rfl) rfl; clear hh; try simp only [pu, pa, pz, ps])
        iterate 3 (have hh := @list_skip; refine hh ?_ ?_; exact want_undef rfl (by kernel_rfl); clear hh; try simp only [pu, pa, pz, ps])
        iterate 1 (have hh := @list_skip; refine hh ?_ ?_; exact want_out true rfl (by kernel_rfl) rfl; clear hh; try simp only [pu, pa, pz, ps])
        iterate 1 (have hh := @list_take; refine hh ?_ ?_ ?_ ?_; rotate_left; exact want_free rfl; go_simp <;> (with_reducible rfl); clear hh; try simp only [pu, pa, pz, ps])
        refine wpList_nil ?_
        go_wp2_with fail
        go_ret
        exact ⟨by rw [HZ.out]; rfl, HB1.out⟩
      have qa : (m < 14) = False := eq_false ca
      by_cases c17 : m = 17
      case pos =>
        subst c17
        have HZ := Lib.hid (HNo.out (by rw [HBad.out]; simp [C2.out]))
        clear HAll HOne HNo HBad HIH HRow
        go_enter Tryd.func42, Tryd.ntmps42
        go_wp2_with fail
        refine (HLeaf.out _ (by (repeat' (first | (with_reducible exact Below.refl _ _) | (with_reducible assumption) | (with_reducible refine below_drewN ?_ _) | (with_reducible refine Below.alloc ?_ ?_ _) | (with_reducible refine Below.drew ?_) | (with_reducible refine Below.setCell ?_ ?_ _) | go_size)))).mono ?_; rintro e w1 ⟨rfl, hb1⟩
        rw [← HW0.out] at hb1
        have HB01 := Lib.hid hb1
        have HB1 := Lib.hid (k4.trans (hb1.mono k4.size))
        have e20 := (K2.out.keep k3 hb1) 0 _ rfl
        have e21 := (K2.out.keep k3 hb1) 1 _ rfl
        have e22 := (K2.out.keep k3 hb1) 2 _ rfl
        have e23 := (K2.out.keep k3 hb1) 3 _ rfl
        have e24 := (K2.out.keep k3 hb1) 4 _ rfl
        clear hb1
        go_upto_region 3 with fail
        refine wp_region_lit ?_
        iterate 4 (have hh := @list_take; refine hh ?_ ?_ ?_ ?_; rotate_left; exact want_free rfl; go_simp <;> (with_reducible rfl); clear hh; try simp only [pu, pa, pz, ps])
        iterate 3 (have hh := @list_take; refine hh ?_ ?_ ?_ ?_; rotate_left; exact want_in false rfl (by kernel_rfl) rfl; go_simp <;> (with_reducible rfl); clear hh; try simp only [pu, pa, pz, ps])
        iterate 2 (have hh := @list_take; refine hh ?_ ?_ ?_ ?_; rotate_left; exact want_free rfl; go_simp <;> (with_reducible rfl); clear hh; try simp only [pu, pa, pz, ps])
        iterate 4 (have hh := @list_take; refine hh ?_ ?_ ?_ ?_; rotate_left; exact want_in false rfl (by kernel_rfl) rfl; go_simp <;> (with_reducible rfl); clear hh; try simp only [pu, pa, pz, ps])
        iterate 4 (have hh := @list_skip; refine hh ?_ ?_; exact want_out false rfl (by kernel_rfl) rfl; clear hh; try simp only [pu, pa, pz, ps])
        iterate 4 (have hh := @list_skip; refine hh ?_ ?_; exact want_undef rfl (by kernel_rfl); clear hh; try simp only [pu, pa, pz, ps])
        iterate 1 (have hh := @list_skip; refine hh ?_ ?_; exact want_out false rfl (by kernel_rfl) rfl; clear hh; try simp only [pu, pa, pz, ps])
        iterate 1 (have hh := @list_take; refine hh ?_ ?_ ?_ ?_; rotate_left; exact want_in false rfl (by kernel_rfl) rfl; go_simp <;> (with_reducible rfl); clear hh; try simp only [pu, pa, pz, ps])
        iterate 2 (have hh := @list_take; refine hh ?_ ?_ ?_ ?_; rotate_left; exact want_free rfl; go_simp <;> (with_reducible rfl); clear hh; try simp only [pu, pa, pz, ps])
        iterate 4 (have hh := @list_take; refine hh ?_ ?_ ?_ ?_; rotate_left; exact want_in false rfl (by kernel_rfl) rfl; go_simp <;> (with_reducible rfl); clear hh; try simp only [pu, pa, pz, ps])
        iterate 5 (have hh := @list_take; refine hh ?_ ?_ ?_ ?_; rotate_left; exact want_in true rfl (by kernel_rfl) rfl; go_simp <;> (with_reducible rfl); clear hh; try simp only [pu, pa, pz, ps])
        iterate 3 (have hh := @list_take; refine hh ?_ ?_ ?_ ?_; rotate_left; exact want_in false rfl (by kernel_rfl) rfl; go_simp <;> (with_reducible rfl); clear hh; try simp only [pu, pa, pz, ps])
        iterate 2 (have hh := @list_take; refine hh ?_ ?_ ?_ ?_; rotate_left; exact want_in true rfl (by kernel_rfl) rfl; go_simp <;> (with_reducible rfl); clear hh; try simp only [pu, pa, pz, ps])
        iterate 3 (have hh := @list_take; refine hh ?_ ?_ ?_ ?_; rotate_left; exact want_in false rfl (by kernel_rfl) rfl; go_simp <;> (with_reducible rfl); clear hh; try simp only [pu, pa, pz, ps])
        iterate 2 (have hh := @list_take; refine hh ?_ ?_ ?_ ?_; rotate_left; exact want_in true rfl (by kernel_rfl) rfl; go_simp <;> (with_reducible rfl); clear hh; try simp only [pu, pa, pz, ps])
        iterate 3 (have hh := @list_skip; refine hh ?_ ?_; exact want_out true rfl (by kernel_rfl) rfl; clear hh; try simp only [pu, pa, pz, ps])
        iterate 2 (have hh := @list_take; refine hh ?_ ?_ ?_ ?_; rotate_left; exact want_in true rfl (by kernel_rfl) rfl; go_simp <;> (with_reducible rfl); clear hh; try simp only [pu, pa, pz, ps])
        iterate 3 (have hh := @list_skip; refine hh ?_ ?_; exact want_out true rfl (by kernel_rfl) rfl; clear hh; try simp only [pu, pa, pz, ps])
        iterate 2 (have hh := @list_take; refine hh ?_ ?_ ?_ ?_; rotate_left; exact want_in true rfl (by kernel_rfl) rfl; go_simp <;> (with_reducible rfl); clear hh; try simp only [pu, pa, pz, ps])
        iterate 3 (have hh := @list_skip; refine hh ?_ ?_; exact want_out true rfl (by kernel_rfl) rfl; clear hh; try simp only [pu, pa, pz, ps])
        iterate 1 (have hh := @list_take; refine hh ?_ ?_ ?_ ?_; rotate_left; exact want_in true rfl (by kernel_rfl) rfl; go_simp <;> (with_reducible rfl); clear hh; try simp only [pu, pa, pz, ps])
        iterate 1 (have hh := @list_take; refine hh ?_ ?_ ?_ ?_; rotate_left; exact want_in false rfl (by kernel_rfl) rfl; go_simp <;> (with_reducible rfl); clear hh; try simp only [pu, pa, pz, ps])
        iterate 2 (have hh := @list_take; refine hh ?_ ?_ ?_ ?_; rotate_left; exact want_free rfl; go_simp <;> (with_reducible rfl); clear hh; try simp only [pu, pa, pz, ps])
        iterate 4 (have hh := @list_skip; refine hh ?_ ?_; exact want_out true rfl (by kernel_rfl) rfl; clear hh; try simp only [pu, pa, pz, ps])
        iterate 3 (have hh := @list_skip; refine hh ?_ ?_; exact want_undef rfl (by kernel_rfl); clear hh; try simp only [pu, pa, pz, ps])
        iterate 1 (have hh := @list_skip; refine hh ?_ ?_; exact want_out true rfl (by kernel_rfl) rfl; clear hh; try simp only [pu, pa, pz, ps])
        iterate 1 (have hh := @list_take; refine hh ?_ ?_ ?_ ?_; rotate_left; exact want_free rfl; go_simp <;> (with_reducible rfl); clear hh; try simp only [pu, pa, pz, ps])
        refine wpList_nil ?_
        go_wp2_with fail
        go_ret
        exact ⟨by rw [HZ.out]; rfl, HB1.out⟩
      have q17 : (m == 17) = false := beq_eq_false_iff_ne.2 c17
      by_cases c18 : m = 18
      case pos =>
        subst c18
        have HZ := Lib.hid (HNo.out (by rw [HBad.out]; simp [C2.out]))
        clear HAll HOne HNo HBad HIH HRow
        go_enter Tryd.func42, Tryd.ntmps42
        go_wp2_with fail
        refine (HLeaf.out _ (by (repeat' (first | (with_reducible exact Below.refl _ _) | (with_reducible assumption) | (with_reducible refine below_drewN ?_ _) | (with_reducible refine Below.alloc ?_ ?_ _) | (with_reducible refine Below.drew ?_) | (with_reducible refine Below.setCell ?_ ?_ _) | go_size)))).mono ?_; rintro e w1 ⟨rfl, hb1⟩
        rw [← HW0.out] at hb1
        have HB01 := Lib.hid hb1
        have HB1 := Lib.hid (k4.trans (hb1.mono k4.size))
        have e20 := (K2.out.keep k3 hb1) 0 _ rfl
        have e21 := (K2.out.keep k3 hb1) 1 _ rfl
        have e22 := (K2.out.keep k3 hb1) 2 _ rfl
        have e23 := (K2.out.keep k3 hb1) 3 _ rfl
        have e24 := (K2.out.keep k3 hb1) 4 _ rfl
        clear hb1
        go_upto_region 3 with fail
        refine wp_region_lit ?_
        iterate 4 (have hh := @list_take; refine hh ?_ ?_ ?_ ?_; rotate_left; exact want_free rfl; go_simp <;> (with_reducible rfl); clear hh; try simp only [pu, pa, pz, ps])
        iterate 3 (have hh := @list_take; refine hh ?_ ?_ ?_ ?_; rotate_left; exact want_in false rfl (by kernel_rfl) rfl; go_simp <;> (with_reducible rfl); clear hh; try simp only [pu, pa, pz, ps])
        iterate 2 (have hh := @list_take; refine hh ?_ ?_ ?_ ?_; rotate_left; exact want_free rfl; go_simp <;> (with_reducible rfl); clear hh; try simp only [pu, pa, pz, ps])
        iterate 4 (have hh := @list_take; refine hh ?_ ?_ ?_ ?_; rotate_left; exact want_in false rfl (by kernel_rfl) rfl; go_simp <;> (with_reducible rfl); clear hh; try simp only [pu, pa, pz, ps])
        iterate 4 (have hh := @list_skip; refine hh ?_ ?_; exact want_out false rfl (by kernel_rfl) rfl; clear hh; try simp only [pu, pa, pz, ps])
        iterate 4 (have hh := @list_skip; refine hh ?_ ?_; exact want_undef rfl (by kernel_rfl); clear hh; try simp only [pu, pa, pz, ps])
        iterate 1 (have hh := @list_skip; refine hh ?_ ?_; exact want_out false rfl (by kernel_rfl) rfl; clear hh; try simp only [pu, pa, pz, ps])
        iterate 1 (have hh := @list_take; refine hh ?_ ?_ ?_ ?_; rotate_left; exact want_in false rfl (by kernel_rfl) rfl; go_simp <;> (with_reducible rfl); clear hh; try simp only [pu, pa, pz, ps])
        iterate 2 (have hh := @list_take; refine hh ?_ ?_ ?_ ?_; rotate_left; exact want_free rfl; go_simp <;> (with_reducible rfl); clear hh; try simp only [pu, pa, pz, ps])
        iterate 4 (have hh := @list_take; refine hh ?_ ?_ ?_ ?_; rotate_left; exact want_in false rfl (by kernel_rfl) rfl; go_simp <;> (with_reducible rfl); clear hh; try simp only [pu, pa, pz, ps])
        iterate 5 (have hh := @list_take; refine hh ?_ ?_ ?_ ?_; rotate_left; exact want_in true rfl (by kernel_rfl) rfl; go_simp <;> (with_reducible rfl); clear hh; try simp only [pu, pa, pz, ps])
        iterate 3 (have hh := @list_take; refine hh ?_ ?_ ?_ ?_; rotate_left; exact want_in false rfl (by kernel_rfl) rfl; go_simp <;> (with_reducible rfl); clear hh; try simp only [pu, pa, pz, ps])
        iterate 2 (have hh := @list_take; refine hh ?_ ?_ ?_ ?_; rotate_left; exact want_in true rfl (by kernel_rfl) rfl; go_simp <;> (with_reducible rfl); clear hh; try simp only [pu, pa, pz, ps])
        iterate 3 (have hh := @list_take; refine hh ?_ ?_ ?_ ?_; rotate_left; exact want_in false rfl (by kernel_rfl) rfl; go_simp <;> (with_reducible rfl); clear hh; try simp only [pu, pa, pz, ps])
        iterate 2 (have hh := @list_take; refine hh ?_ ?_ ?_ ?_; rotate_left; exact want_in true rfl (by kernel_rfl) rfl; go_simp <;> (with_reducible rfl); clear hh; try simp only [pu, pa, pz, ps])
        iterate 3 (have hh := @list_take; refine hh ?_ ?_ ?_ ?_; rotate_left; exact want_in false rfl (by kernel_rfl) rfl; go_simp <;> (with_reducible rfl); clear hh; try simp only [pu, pa, pz, ps])
        iterate 2 (have hh := @list_take; refine hh ?_ ?_ ?_ ?_; rotate_left; exact want_in true rfl (by kernel_rfl) rfl; go_simp <;> (with_reducible rfl); clear hh; try simp only [pu, pa, pz, ps])
        iterate 3 (have hh := @list_skip; refine hh ?_ ?_; exact want_out true rfl (by kernel_rfl) rfl; clear hh; try simp only [pu, pa, pz, ps])
        iterate 2 (have hh := @list_take; refine hh ?_ ?_ ?_ ?_; rotate_left; exact want_in true rfl (by kernel_rfl) rfl; go_simp <;> (with_reducible rfl); clear hh; try simp only [pu, pa, pz, ps])
        iterate 3 (have hh := @list_skip; refine hh ?_ ?_; exact want_out true rfl (by kernel_rfl) rfl; clear hh; try simp only [pu, pa, pz, ps])
        iterate 1 (have hh := @list_take; refine hh ?_ ?_ ?_ ?_; rotate_left; exact want_in true rfl (by kernel_rfl) rfl; go_simp <;> (with_reducible rfl); clear hh; try simp only [pu, pa, pz, ps])
        iterate 1 (have hh := @list_take; refine hh ?_ ?_ ?_ ?_; rotate_left; exact want_in false rfl (by kernel_rfl) rfl; go_simp <;> (with_reducible rfl); clear hh; try simp only [pu, pa, pz, ps])
        iterate 2 (have hh := @list_take; refine hh ?_ ?_ ?_ ?_; rotate_left; exact want_free rfl; go_simp <;> (with_reducible rfl); clear hh; try simp only [pu, pa, pz, ps])
        iterate 4 (have hh := @list_skip; refine hh ?_ ?_; exact want_out true rfl (by kernel_rfl) rfl; clear hh; try simp only [pu, pa, pz, ps])
        iterate 3 (have hh := @list_skip; refine hh ?_ ?_; exact want_undef rfl (by kernel_rfl); clear hh; try simp only [pu, pa, pz, ps])
        iterate 1 (have hh := @list_skip; refine hh ?_ ?_; exact want_out true rfl (by kernel_rfl) rfl; clear hh; try simp only [pu, pa, pz, ps])
        iterate 1 (have hh := @list_take; refine hh ?_ ?_ ?_ ?_; rotate_left; exact want_free rfl; go_simp <;> (with_reducible rfl); clear hh; try simp only [pu, pa, pz, ps])
        refine wpList_nil ?_
        go_wp2_with fail
        go_ret
        exact ⟨by rw [HZ.out]; rfl, HB1.out⟩
      have q18 : (m == 18) = false := beq_eq_false_iff_ne.2 c18
      by_cases c19 : m = 19
      case pos =>
        subst c19
        have HZ := Lib.hid (HNo.out (by rw [HBad.out]; simp [C2.out]))
        clear HAll HOne HNo HBad HIH HRow
        go_enter Tryd.func42, Tryd.ntmps42
        go_wp2_with fail
        refine (HLeaf.out _ (by (repeat' (first | (with_reducible exact Below.refl _ _) | (with_reducible assumption) | (with_reducible refine below_drewN ?_ _) | (with_reducible refine Below.alloc ?_ ?_ _) | (with_reducible refine Below.drew ?_) | (with_reducible refine Below.setCell ?_ ?_ _) | go_size)))).mono ?_; rintro e w1 ⟨rfl, hb1⟩
        rw [← HW0.out] at hb1
        have HB01 := Lib.hid hb1
        have HB1 := Lib.hid (k4.trans (hb1.mono k4.size))
        have e20 := (K2.out.keep k3 hb1) 0 _ rfl
        have e21 := (K2.out.keep k3 hb1) 1 _ rfl
        have e22 := (K2.out.keep k3 hb1) 2 _ rfl
        have e23 := (K2.out.keep k3 hb1) 3 _ rfl
        have e24 := (K2.out.keep k3 hb1) 4 _ rfl
        clear hb1
        go_upto_region 3 with fail
        refine wp_region_lit ?_
        iterate 4 (have hh := @list_take; refine hh ?_ ?_ ?_ ?_; rotate_left; exact want_free rfl; go_simp <;> (with_reducible rfl); clear hh; try simp only [pu, pa, pz, ps])
        iterate 3 (have hh := @list_take; refine hh ?_ ?_ ?_ ?_; rotate_left; exact want_in false rfl (by kernel_rfl) rfl; go_simp <;> (with_reducible rfl); clear hh; try simp only [pu, pa, pz, ps])
        iterate 2 (have hh := @list_take; refine hh ?_ ?_ ?_ ?_; rotate_left; exact want_free rfl; go_simp <;> (with_reducible rfl); clear hh; try simp only [pu, pa, pz, ps])
        iterate 4 (have hh := @list_take; refine hh ?_ ?_ ?_ ?_; rotate_left; exact want_in false rfl (by kernel_rfl) rfl; go_simp <;> (with_reducible rfl); clear hh; try simp only [pu, pa, pz, ps])
        iterate 4 (have hh := @list_skip; refine hh ?_ ?_; exact want_out false rfl (by kernel_rfl) rfl; clear hh; try simp only [pu, pa, pz, ps])
        iterate 4 (have hh := @list_skip; refine hh ?_ ?_; exact want_undef rfl (by kernel_rfl); clear hh; try simp only [pu, pa, pz, ps])
        iterate 1 (have hh := @list_skip; refine hh ?_ ?_; exact want_out false rfl (by kernel_rfl) rfl; clear hh; try simp only [pu, pa, pz, ps])
        iterate 1 (have hh := @list_take; refine hh ?_ ?_ ?_ ?_; rotate_left; exact want_in false rfl (by kernel_rfl) rfl; go_simp <;> (with_reducible rfl); clear hh; try simp only [pu, pa, pz, ps])
        iterate 2 (have hh := @list_take; refine hh ?_ ?_ ?_ ?_; rotate_left; exact want_free rfl; go_simp <;> (with_reducible rfl); clear hh; try simp only [pu, pa, pz, ps])
        iterate 4 (have hh := @list_take; refine hh ?_ ?_ ?_ ?_; rotate_left; exact want_in false rfl (by kernel_rfl) rfl; go_simp <;> (with_reducible rfl); clear hh; try simp only [pu, pa, pz, ps])
        iterate 5 (have hh := @list_take; refine hh ?_ ?_ ?_ ?_; rotate_left; exact want_in true rfl (by kernel_rfl) rfl; go_simp <;> (with_reducible rfl); clear hh; try simp only [pu, pa, pz, ps])
        iterate 3 (have hh := @list_take; refine hh ?_ ?_ ?_ ?_; rotate_left; exact want_in false rfl (by kernel_rfl) rfl; go_simp <;> (with_reducible rfl); clear hh; try simp only [pu, pa, pz, ps])
        iterate 2 (have hh := @list_take; refine hh ?_ ?_ ?_ ?_; rotate_left; exact want_in true rfl (by kernel_rfl) rfl; go_simp <;> (with_reducible rfl); clear hh; try simp only [pu, pa, pz, ps])
        iterate 3 (have hh := @list_take; refine hh ?_ ?_ ?_ ?_; rotate_left; exact want_in false rfl (by kernel_rfl) rfl; go_simp <;> (with_reducible rfl); clear hh; try simp only [pu, pa, pz, ps])
        iterate 2 (have hh := @list_take; refine hh ?_ ?_ ?_ ?_; rotate_left; exact want_in true rfl (by kernel_rfl) rfl; go_simp <;> (with_reducible rfl); clear hh; try simp only [pu, pa, pz, ps])
        iterate 3 (have hh := @list_take; refine hh ?_ ?_ ?_ ?_; rotate_left; exact want_in false rfl (by kernel_rfl) rfl; go_simp <;> (with_reducible rfl); clear hh; try simp only [pu, pa, pz, ps])
        iterate 2 (have hh := @list_take; refine hh ?_ ?_ ?_ ?_; rotate_left; exact want_in true rfl (by kernel_rfl) rfl; go_simp <;> (with_reducible rfl); clear hh; try simp only [pu, pa, pz, ps])
        iterate 3 (have hh := @list_take; refine hh ?_ ?_ ?_ ?_; rotate_left; exact want_in false rfl (by kernel_rfl) rfl; go_simp <;> (with_reducible rfl); clear hh; try simp only [pu, pa, pz, ps])
        iterate 2 (have hh := @list_take; refine hh ?_ ?_ ?_ ?_; rotate_left; exact want_in true rfl (by kernel_rfl) rfl; go_simp <;> (with_reducible rfl); clear hh; try simp only [pu, pa, pz, ps])
        iterate 3 (have hh := @list_skip; refine hh ?_ ?_; exact want_out true rfl (by kernel_rfl) rfl; clear hh; try simp only [pu, pa, pz, ps])
        iterate 1 (have hh := @list_take; refine hh ?_ ?_ ?_ ?_; rotate_left; exact want_in true rfl (by kernel_rfl) rfl; go_simp <;> (with_reducible rfl); clear hh; try simp only [pu, pa, pz, ps])
        iterate 1 (have hh := @list_take; refine hh ?_ ?_ ?_ ?_; rotate_left; exact want_in false rfl (by kernel_rfl) rfl; go_simp <;> (with_reducible rfl); clear hh; try simp only [pu, pa, pz, ps])
        iterate 2 (have hh := @list_take; refine hh ?_ ?_ ?_ ?_; rotate_left; exact want_free rfl; go_simp <;> (with_reducible rfl); clear hh; try simp only [pu, pa, pz, ps])
        iterate 4 (have hh := @list_skip; refine hh ?_ ?_; exact want_out true rfl (by kernel_rfl) rfl; clear hh; try simp only [pu, pa, pz, ps])
        iterate 3 (have hh := @list_skip; refine hh ?_ ?_; exact want_undef rfl (by kernel_rfl); clear hh; try simp only [pu, pa, pz, ps])
        iterate 1 (have hh := @list_skip; refine hh ?_ ?_; exact want_out true rfl (by kernel_rfl) rfl; clear hh; try simp only [pu, pa, pz, ps])
        iterate 1 (have hh := @list_take; refine hh ?_ ?_ ?_ ?_; rotate_left; exact want_free rfl; go_simp <;> (with_reducible rfl); clear hh; try simp only [pu, pa, pz, ps])
        refine wpList_nil ?_
        go_wp2_with fail
        go_ret
        exact ⟨by rw [HZ.out]; rfl, HB1.out⟩
      have q19 : (m == 19) = false := beq_eq_false_iff_ne.2 c19
      by_cases cb : 21 < m
      case pos =>
        have qb : (21 < m) = True := eq_true cb
        have HZ := Lib.hid (HNo.out (by rw [HBad.out]; simp [cb, C2.out]))
        clear HAll HOne HNo HBad HIH HRow
        go_enter Tryd.func42, Tryd.ntmps42
        go_wp2_with fail
        refine (HLeaf.out _ (by (repeat' (first | (with_reducible exact Below.refl _ _) | (with_reducible assumption) | (with_reducible refine below_drewN ?_ _) | (with_reducible refine Below.alloc ?_ ?_ _) | (with_reducible refine Below.drew ?_) | (with_reducible refine Below.setCell ?_ ?_ _) | go_size)))).mono ?_; rintro e w1 ⟨rfl, hb1⟩
        rw [← HW0.out] at hb1
        have HB01 := Lib.hid hb1
        have HB1 := Lib.hid (k4.trans (hb1.mono k4.size))
        have e20 := (K2.out.keep k3 hb1) 0 _ rfl
        have e21 := (K2.out.keep k3 hb1) 1 _ rfl
        have e22 := (K2.out.keep k3 hb1) 2 _ rfl
        have e23 := (K2.out.keep k3 hb1) 3 _ rfl
        have e24 := (K2.out.keep k3 hb1) 4 _ rfl
        clear hb1
        go_upto_region 3 with fail
        refine wp_region_lit ?_
        iterate 4 (have hh := @list_take; refine hh ?_ ?_ ?_ ?_; rotate_left; exact want_free rfl; go_simp <;> (with_reducible rfl); clear hh; try simp only [pu, pa, pz, ps])
        iterate 3 (have hh := @list_take; refine hh ?_ ?_ ?_ ?_; rotate_left; exact want_in false rfl (by kernel_rfl) rfl; go_simp <;> (with_reducible rfl); clear hh; try simp only [pu, pa, pz, ps])
        iterate 2 (have hh := @list_take; refine hh ?_ ?_ ?_ ?_; rotate_left; exact want_free rfl; go_simp <;> (with_reducible rfl); clear hh; try simp only [pu, pa, pz, ps])
        iterate 4 (have hh := @list_take; refine hh ?_ ?_ ?_ ?_; rotate_left; exact want_in false rfl (by kernel_rfl) rfl; go_simp <;> (with_reducible rfl); clear hh; try simp only [pu, pa, pz, ps])
        iterate 4 (have hh := @list_skip; refine hh ?_ ?_; exact want_out false rfl (by kernel_rfl) rfl; clear hh; try simp only [pu, pa, pz, ps])
        iterate 4 (have hh := @list_skip; refine hh ?_ ?_; exact want_undef rfl (by kernel_rfl); clear hh; try simp only [pu, pa, pz, ps])
        iterate 1 (have hh := @list_skip; refine hh ?_ ?_; exact want_out false rfl (by kernel_rfl) rfl; clear hh; try simp only [pu, pa, pz, ps])
        iterate 1 (have hh := @list_take; refine hh ?_ ?_ ?_ ?_; rotate_left; exact want_in false rfl (by kernel_rfl) rfl; go_simp <;> (with_reducible rfl); clear hh; try simp only [pu, pa, pz, ps])
        iterate 2 (have hh := @list_take; refine hh ?_ ?_ ?_ ?_; rotate_left; exact want_free rfl; go_simp <;> (with_reducible rfl); clear hh; try simp only [pu, pa, pz, ps])
        iterate 4 (have hh := @list_take; refine hh ?_ ?_ ?_ ?_; rotate_left; exact want_in false rfl (by kernel_rfl) rfl; go_simp <;> (with_reducible rfl); clear hh; try simp only [pu, pa, pz, ps])
        iterate 5 (have hh := @list_take; refine hh ?_ ?_ ?_ ?_; rotate_left; exact want_in true rfl (by kernel_rfl) rfl; go_simp <;> (with_reducible rfl); clear hh; try simp only [pu, pa, pz, ps])
        iterate 3 (have hh := @list_take; refine hh ?_ ?_ ?_ ?_; rotate_left; exact want_in false rfl (by kernel_rfl) rfl; go_simp <;> (with_reducible rfl); clear hh; try simp only [pu, pa, pz, ps])
        iterate 2 (have hh := @list_take; refine hh ?_ ?_ ?_ ?_; rotate_left; exact want_in true rfl (by kernel_rfl) rfl; go_simp <;> (with_reducible rfl); clear hh; try simp only [pu, pa, pz, ps])
        iterate 3 (have hh := @list_take; refine hh ?_ ?_ ?_ ?_; rotate_left; exact want_in false rfl (by kernel_rfl) rfl; go_simp <;> (with_reducible rfl); clear hh; try simp only [pu, pa, pz, ps])
        iterate 2 (have hh := @list_take; refine hh ?_ ?_ ?_ ?_; rotate_left; exact want_in true rfl (by kernel_rfl) rfl; go_simp <;> (with_reducible rfl); clear hh; try simp only [pu, pa, pz, ps])
        iterate 3 (have hh := @list_take; refine hh ?_ ?_ ?_ ?_; rotate_left; exact want_in false rfl (by kernel_rfl) rfl; go_simp <;> (with_reducible rfl); clear hh; try simp only [pu, pa, pz, ps])
        iterate 2 (have hh := @list_take; refine hh ?_ ?_ ?_ ?_; rotate_left; exact want_in true rfl (by kernel_rfl) rfl; go_simp <;> (with_reducible rfl); clear hh; try simp only [pu, pa, pz, ps])
        iterate 3 (have hh := @list_take; refine hh ?_ ?_ ?_ ?_; rotate_left; exact want_in false rfl (by kernel_rfl) rfl; go_simp <;> (with_reducible rfl); clear hh; try simp only [pu, pa, pz, ps])
        iterate 2 (have hh := @list_take; refine hh ?_ ?_ ?_ ?_; rotate_left; exact want_in true rfl (by kernel_rfl) rfl; go_simp <;> (with_reducible rfl); clear hh; try simp only [pu, pa, pz, ps])
        iterate 3 (have hh := @list_take; refine hh ?_ ?_ ?_ ?_; rotate_left; exact want_in false rfl (by kernel_rfl) rfl; go_simp <;> (with_reducible rfl); clear hh; try simp only [pu, pa, pz, ps])
        iterate 1 (have hh := @list_take; refine hh ?_ ?_ ?_ ?_; rotate_left; exact want_in true rfl (by kernel_rfl) rfl; go_simp <;> (with_reducible rfl); clear hh; try simp only [pu, pa, pz, ps])
        iterate 1 (have hh := @list_take; refine hh ?_ ?_ ?_ ?_; rotate_left; exact want_in false rfl (by kernel_rfl) rfl; go_simp <;> (with_reducible rfl); clear hh; try simp only [pu, pa, pz, ps])
        iterate 2 (have hh := @list_take; refine hh ?_ ?_ ?_ ?_; rotate_left; exact want_free rfl; go_simp <;> (with_reducible rfl); clear hh; try simp only [pu, pa, pz, ps])
        iterate 4 (have hh := @list_skip; refine hh ?_ ?_; exact want_out true rfl (by kernel_rfl) rfl; clear hh; try simp only [pu, pa, pz, ps])
        iterate 3 (have hh := @list_skip; refine hh ?_ ?_; exact want_undef rfl (by kernel_rfl); clear hh; try simp only [pu, pa, pz, ps])
        iterate 1 (have hh := @list_skip; refine hh ?_ ?_; exact want_out true rfl (by kernel_rfl) rfl; clear hh; try simp only [pu, pa, pz, ps])
        iterate 1 (have hh := @list_take; refine hh ?_ ?_ ?_ ?_; rotate_left; exact want_free rfl; go_simp <;> (with_reducible rfl); clear hh; try simp only [pu, pa, pz, ps])
        refine wpList_nil ?_
        go_wp2_with fail
        go_ret
        exact ⟨by rw [HZ.out]; rfl, HB1.out⟩
      have qb : (21 < m) = False := eq_false cb
      have HAl := Lib.hid (HAll.out (by rw [HBad.out]; simp [ca, c17, c18, c19, cb, C2.out]))
      clear HAll HNo HBad
      go_enter Tryd.func42, Tryd.ntmps42
      go_wp2_with fail
      refine (HLeaf.out _ (by (repeat' (first | (with_reducible exact Below.refl _ _) | (with_reducible assumption) | (with_reducible refine below_drewN ?_ _) | (with_reducible refine Below.alloc ?_ ?_ _) | (with_reducible refine Below.drew ?_) | (with_reducible refine Below.setCell ?_ ?_ _) | go_size)))).mono ?_; rintro e w1 ⟨rfl, hb1⟩
      rw [← HW0.out] at hb1
      have HB01 := Lib.hid hb1
      have HB1 := Lib.hid (k4.trans (hb1.mono k4.size))
      have e20 := (K2.out.keep k3 hb1) 0 _ rfl
      have e21 := (K2.out.keep k3 hb1) 1 _ rfl
      have e22 := (K2.out.keep k3 hb1) 2 _ rfl
      have e23 := (K2.out.keep k3 hb1) 3 _ rfl
      have e24 := (K2.out.keep k3 hb1) 4 _ rfl
      clear hb1
      go_upto_region 3 with fail
      refine wp_region_lit ?_
      iterate 4 (have hh := @list_take; refine hh ?_ ?_ ?_ ?_; rotate_left; exact want_free rfl; go_simp <;> (with_reducible rfl); clear hh; try simp only [pu, pa, pz, ps])
      iterate 3 (have hh := @list_take; refine hh ?_ ?_ ?_ ?_; rotate_left; exact want_in false rfl (by kernel_rfl) rfl; go_simp <;> (with_reducible rfl); clear hh; try simp only [pu, pa, pz, ps])
      iterate 2 (have hh := @list_take; refine hh ?_ ?_ ?_ ?_; rotate_left; exact want_free rfl; go_simp <;> (with_reducible rfl); clear hh; try simp only [pu, pa, pz, ps])
      iterate 4 (have hh := @list_take; refine hh ?_ ?_ ?_ ?_; rotate_left; exact want_in false rfl (by kernel_rfl) rfl; go_simp <;> (with_reducible rfl); clear hh; try simp only [pu, pa, pz, ps])
      iterate 4 (have hh := @list_skip; refine hh ?_ ?_; exact want_out false rfl (by kernel_rfl) rfl; clear hh; try simp only [pu, pa, pz, ps])
      iterate 4 (have hh := @list_skip; refine hh ?_ ?_; exact want_undef rfl (by kernel_rfl); clear hh; try simp only [pu, pa, pz, ps])
      iterate 1 (have hh := @list_skip; refine hh ?_ ?_; exact want_out false rfl (by kernel_rfl) rfl; clear hh; try simp only [pu, pa, pz, ps])
      iterate 1 (have hh := @list_take; refine hh ?_ ?_ ?_ ?_; rotate_left; exact want_in false rfl (by kernel_rfl) rfl; go_simp <;> (with_reducible rfl); clear hh; try simp only [pu, pa, pz, ps])
      iterate 2 (have hh := @list_take; refine hh ?_ ?_ ?_ ?_; rotate_left; exact want_free rfl; go_simp <;> (with_reducible rfl); clear hh; try simp only [pu, pa, pz, ps])
      iterate 4 (have hh := @list_take; refine hh ?_ ?_ ?_ ?_; rotate_left; exact want_in false rfl (by kernel_rfl) rfl; go_simp <;> (with_reducible rfl); clear hh; try simp only [pu, pa, pz, ps])
      iterate 5 (have hh := @list_take; refine hh ?_ ?_ ?_ ?_; rotate_left; exact want_in true rfl (by kernel_rfl) rfl; go_simp <;> (with_reducible rfl); clear hh; try simp only [pu, pa, pz, ps])
      iterate 3 (have hh := @list_take; refine hh ?_ ?_ ?_ ?_; rotate_left; exact want_in false rfl (by kernel_rfl) rfl; go_simp <;> (with_reducible rfl); clear hh; try simp only [pu, pa, pz, ps])
      iterate 2 (have hh := @list_take; refine hh ?_ ?_ ?_ ?_; rotate_left; exact want_in true rfl (by kernel_rfl) rfl; go_simp <;> (with_reducible rfl); clear hh; try simp only [pu, pa, pz, ps])
      iterate 3 (have hh := @list_take; refine hh ?_ ?_ ?_ ?_; rotate_left; exact want_in false rfl (by kernel_rfl) rfl; go_simp <;> (with_reducible rfl); clear hh; try simp only [pu, pa, pz, ps])
      iterate 2 (have hh := @list_take; refine hh ?_ ?_ ?_ ?_; rotate_left; exact want_in true rfl (by kernel_rfl) rfl; go_simp <;> (with_reducible rfl); clear hh; try simp only [pu, pa, pz, ps])
      iterate 3 (have hh := @list_take; refine hh ?_ ?_ ?_ ?_; rotate_left; exact want_in false rfl (by kernel_rfl) rfl; go_simp <;> (with_reducible rfl); clear hh; try simp only [pu, pa, pz, ps])
      iterate 2 (have hh := @list_take; refine hh ?_ ?_ ?_ ?_; rotate_left; exact want_in true rfl (by kernel_rfl) rfl; go_simp <;> (with_reducible rfl); clear hh; try simp only [pu, pa, pz, ps])
      iterate 3 (have hh := @list_take; refine hh ?_ ?_ ?_ ?_; rotate_left; exact want_in false rfl (by kernel_rfl) rfl; go_simp <;> (with_reducible rfl); clear hh; try simp only [pu, pa, pz, ps])
      iterate 2 (have hh := @list_take; refine hh ?_ ?_ ?_ ?_; rotate_left; exact want_in true rfl (by kernel_rfl) rfl; go_simp <;> (with_reducible rfl); clear hh; try simp only [pu, pa, pz, ps])
      iterate 3 (have hh := @list_take; refine hh ?_ ?_ ?_ ?_; rotate_left; exact want_in false rfl (by kernel_rfl) rfl; go_simp <;> (with_reducible rfl); clear hh; try simp only [pu, pa, pz, ps])
      iterate 1 (have hh := @list_take; refine hh ?_ ?_ ?_ ?_; rotate_left; exact want_in true rfl (by kernel_rfl) rfl; go_simp <;> (with_reducible rfl); clear hh; try simp only [pu, pa, pz, ps])
      iterate 1 (have hh := @list_take; refine hh ?_ ?_ ?_ ?_; rotate_left; exact want_in false rfl (by kernel_rfl) rfl; go_simp <;> (with_reducible rfl); clear hh; try simp only [pu, pa, pz, ps])
      iterate 2 (have hh := @list_take; refine hh ?_ ?_ ?_ ?_; rotate_left; exact want_free rfl; go_simp <;> (with_reducible rfl); clear hh; try simp only [pu, pa, pz, ps])
      iterate 4 (have hh := @list_take; refine hh ?_ ?_ ?_ ?_; rotate_left; exact want_in false rfl (by kernel_rfl) rfl; go_simp <;> (with_reducible rfl); clear hh; try simp only [pu, pa, pz, ps])
      iterate 3 (have hh := @list_take; refine hh ?_ ?_ ?_ ?_; rotate_left; exact want_in true rfl (by kernel_rfl) rfl; go_simp <;> (with_reducible rfl); clear hh; try simp only [pu, pa, pz, ps])
      iterate 1 (have hh := @list_take; refine hh ?_ ?_ ?_ ?_; rotate_left; exact want_in false rfl (by kernel_rfl) rfl; go_simp <;> (with_reducible rfl); clear hh; try simp only [pu, pa, pz, ps])
      iterate 1 (have hh := @list_take; refine hh ?_ ?_ ?_ ?_; rotate_left; exact want_free rfl; go_simp <;> (with_reducible rfl); clear hh; try simp only [pu, pa, pz, ps])
      refine wpList_nil ?_
      go_wp2_with fail
      clear e20 e21 e22 e23 e24
      go_loopw [5] (fun jj wr => ∃ k : Nat, k ≤ N ∧ jj = .int .i64 k ∧ Hid (∀ x ∈ l.take k, truE s x = true) ∧ Hid (Below W0.heap.size W0 wr)) (fun jj _ => N - (intOf jj).toNat)
      case atStart => exact ⟨0, Nat.zero_le _, rfl, Lib.hid (by simp), HB01⟩
      case round =>
        obtain ⟨k, hk, rfl, hall, HB⟩ := hrel
        have e00 := (K1.out.keep z1 HB.out) 0 _ rfl
        have e01 := (K1.out.keep z1 HB.out) 1 _ rfl
        have e02 := (K1.out.keep z1 HB.out) 2 _ rfl
        have e03 := (K1.out.keep z1 HB.out) 3 _ rfl
        have e24 := (K2.out.keep k3 HB.out) 4 _ rfl
        have y1 : w.heap.size < wr.heap.size := Nat.lt_of_lt_of_le z1 HB.out.size
        have y2 : w.heap.size + 1 < wr.heap.size := Nat.lt_of_lt_of_le k3 HB.out.size
        have hBw := k4.trans (HB.out.mono k4.size)
        have HBw := Lib.hid hBw
        by_cases hlt : k < N
        · obtain ⟨x, hx⟩ := get_some (L := l) (n := k) (by have := HN.out; omega)
          obtain ⟨bx, ox, ss, sn, sc2, rfl, hbx, _, _, d0, d1, d2, d3, d4, dV⟩ := ex_at HRow.out hx
          have c0 := (hBw.cell (p := ⟨bx, ox + k * 5, none⟩) hbx).trans d0
          have c1 := (hBw.cell (p := ⟨bx, ox + k * 5 + 1, none⟩) hbx).trans d1
          have c2 := (hBw.cell (p := ⟨bx, ox + k * 5 + 2, none⟩) hbx).trans d2
          have c3 := (hBw.cell (p := ⟨bx, ox + k * 5 + 3, none⟩) hbx).trans d3
          have c4 := (hBw.cell (p := ⟨bx, ox + k * 5 + 4, none⟩) hbx).trans d4
          have yb : bx < wr.heap.size := Nat.lt_of_lt_of_le hbx hBw.size
          have HVx := Lib.hid (fun W (hb : Below wr.heap.size wr W) => (dV.below hBw).below hb)
          have HX := Lib.hid (HIH.out x (List.mem_of_getElem? hx))
          have HNx := Lib.hid (HOne.out x (List.mem_of_getElem? hx))
          have HTk := Lib.hid (show truE s x = true → ∀ y ∈ l.take (k + 1), truE s y = true from fun h y hy => by
            rw [List.take_add_one, hx] at hy
            rcases List.mem_append.1 hy with hy | hy
            · exact hall.out y hy
            · rw [show y = x by simpa using hy]; exact h)
          have r1 : ((k : Int) < (N : Int)) = True := eq_true (by omega)
          have r1' : (k < N) = True := eq_true hlt
          clear d0 d1 d2 d3 d4 dV hBw hbx hx
          generalize truE s x = zx at *
          obtain ⟨xop, xt, xn, xm, xl⟩ := x
          simp only at c0 c1 c2 c3 HVx HX
          cases zx with
          | true =>
            have hT := Lib.hid (HTk.out rfl)
            clear HTk HNx
            go_wp2_with fail
            have qq0 := fun wt (h : Below wr.heap.size wr wt) => cellB h e00 y1
            have qq1 := fun wt (h : Below wr.heap.size wr wt) => cellB h e01 y1
            have qq2 := fun wt (h : Below wr.heap.size wr wt) => cellB h e02 y1
            have qq3 := fun wt (h : Below wr.heap.size wr wt) => cellB h e03 y1
            have qq4 := fun wt (h : Below wr.heap.size wr wt) => cellB h e24 y2
            have qq5 := fun wt (h : Below wr.heap.size wr wt) => cellB h c0 yb
            have qq6 := fun wt (h : Below wr.heap.size wr wt) => cellB h c1 yb
            have qq7 := fun wt (h : Below wr.heap.size wr wt) => cellB h c2 yb
            have qq8 := fun wt (h : Below wr.heap.size wr wt) => cellB h c3 yb
            have qq9 := fun wt (h : Below wr.heap.size wr wt) => cellB h c4 yb
            refine wp_region_held_drew (S := (fun w' => Below wr.heap.size wr w')) (by kernel_rfl) ?_ (fun hHeld => ?_)
            · (try dsimp only); first | assumption | exact Below.alloc hHeld hHeld.size _ | exact (Below.refl _ _).drew | exact Below.drew (Below.refl _ _) | exact Below_drewN _ _ _ | exact Below.refl _ _
            refine tk 0 (v := ?_) (hy := ?_) (h := ?_); rotate_left
            · intro wt hSw; (try dsimp only at hSw); go_simp <;> with_reducible rfl
            try simp only [pu, pa, pz, ps]
            refine tk 1 (v := ?_) (hy := ?_) (h := ?_); rotate_left
            · intro _ _; go_simp <;> with_reducible rfl
            try simp only [pu, pa, pz, ps]
            refine tk 2 (v := ?_) (hy := ?_) (h := ?_); rotate_left
            · intro wt hSw; (try dsimp only at hSw); go_simp <;> with_reducible rfl
            try simp only [pu, pa, pz, ps]
            refine tk 3 (v := ?_) (hy := ?_) (h := ?_); rotate_left
            · intro _ _; go_simp <;> with_reducible rfl
            try simp only [pu, pa, pz, ps]
            refine tk 4 (v := ?_) (hy := ?_) (h := ?_); rotate_left
            · intro _ _; go_simp <;> with_reducible rfl
            try simp only [pu, pa, pz, ps]
            refine tk 5 (v := ?_) (hy := ?_) (h := ?_); rotate_left
            · intro wt hSw; (try dsimp only at hSw); go_simp <;> with_reducible rfl
            try simp only [pu, pa, pz, ps]
            refine wpAnyH_ready (rs := [6]) (by kernel_rfl) (by simp) ?_
            refine AllReadyH.cons (o := ⟨_, _, _, _, _, _⟩) rfl (fun K hK => ?_) AllReadyH.nil
            go_simp
            refine (HX.out _ _ (HBw.out.trans (hHeld.mono HBw.out.size)) (HVx.out _ hHeld)).mono ?_; rintro e v2 ⟨rfl, hb2⟩; have hHeld := hHeld.trans (hb2.mono hHeld.size); clear hb2
            go_wp2_with fail
            refine hK.out _ _ ?_ (fun hHeld => ?_)
            · (try dsimp only); first | assumption | exact Below.alloc hHeld hHeld.size _ | exact (Below.refl _ _).drew | exact Below.drew (Below.refl _ _) | exact Below_drewN _ _ _ | exact Below.refl _ _
            clear hK K
            try simp only [pu, pa, pz, ps]
            refine tk 7 (v := ?_) (hy := ?_) (h := ?_); rotate_left
            · intro _ _; go_simp <;> with_reducible rfl
            try simp only [pu, pa, pz, ps]
            refine wpAnyH_done (by kernel_rfl) ?_ _
            have HBn := Lib.hid (HB.out.trans (hHeld.mono HB.out.size))
            go_wp2_with fail
            go_roundw
            case rel => exact ⟨k + 1, by omega, by simp, hT, HBn⟩
            case measure => first | (simp [intOf]; done) | (simp [intOf]; omega)
          | false =>
            have HZ := Lib.hid (HNx.out rfl)
            clear HTk HNx
            go_wp2_with fail
            have qq0 := fun wt (h : Below wr.heap.size wr wt) => cellB h e00 y1
            have qq1 := fun wt (h : Below wr.heap.size wr wt) => cellB h e01 y1
            have qq2 := fun wt (h : Below wr.heap.size wr wt) => cellB h e02 y1
            have qq3 := fun wt (h : Below wr.heap.size wr wt) => cellB h e03 y1
            have qq4 := fun wt (h : Below wr.heap.size wr wt) => cellB h e24 y2
            have qq5 := fun wt (h : Below wr.heap.size wr wt) => cellB h c0 yb
            have qq6 := fun wt (h : Below wr.heap.size wr wt) => cellB h c1 yb
            have qq7 := fun wt (h : Below wr.heap.size wr wt) => cellB h c2 yb
            have qq8 := fun wt (h : Below wr.heap.size wr wt) => cellB h c3 yb
            have qq9 := fun wt (h : Below wr.heap.size wr wt) => cellB h c4 yb
            refine wp_region_held_drew (S := (fun w' => Below wr.heap.size wr w')) (by kernel_rfl) ?_ (fun hHeld => ?_)
            · (try dsimp only); first | assumption | exact Below.alloc hHeld hHeld.size _ | exact (Below.refl _ _).drew | exact Below.drew (Below.refl _ _) | exact Below_drewN _ _ _ | exact Below.refl _ _
            refine tk 0 (v := ?_) (hy := ?_) (h := ?_); rotate_left
            · intro wt hSw; (try dsimp only at hSw); go_simp <;> with_reducible rfl
            try simp only [pu, pa, pz, ps]
            refine tk 1 (v := ?_) (hy := ?_) (h := ?_); rotate_left
            · intro _ _; go_simp <;> with_reducible rfl
            try simp only [pu, pa, pz, ps]
            refine tk 2 (v := ?_) (hy := ?_) (h := ?_); rotate_left
            · intro wt hSw; (try dsimp only at hSw); go_simp <;> with_reducible rfl
            try simp only [pu, pa, pz, ps]
            refine tk 3 (v := ?_) (hy := ?_) (h := ?_); rotate_left
            · intro _ _; go_simp <;> with_reducible rfl
            try simp only [pu, pa, pz, ps]
            refine tk 4 (v := ?_) (hy := ?_) (h := ?_); rotate_left
            · intro _ _; go_simp <;> with_reducible rfl
            try simp only [pu, pa, pz, ps]
            refine tk 5 (v := ?_) (hy := ?_) (h := ?_); rotate_left
            · intro wt hSw; (try dsimp only at hSw); go_simp <;> with_reducible rfl
            try simp only [pu, pa, pz, ps]
            refine wpAnyH_ready (rs := [6]) (by kernel_rfl) (by simp) ?_
            refine AllReadyH.cons (o := ⟨_, _, _, _, _, _⟩) rfl (fun K hK => ?_) AllReadyH.nil
            go_simp
            refine (HX.out _ _ (HBw.out.trans (hHeld.mono HBw.out.size)) (HVx.out _ hHeld)).mono ?_; rintro e v2 ⟨rfl, hb2⟩; have hHeld := hHeld.trans (hb2.mono hHeld.size); clear hb2
            go_wp2_with fail
            refine hK.out _ _ ?_ (fun hHeld => ?_)
            · (try dsimp only); first | assumption | exact Below.alloc hHeld hHeld.size _ | exact (Below.refl _ _).drew | exact Below.drew (Below.refl _ _) | exact Below_drewN _ _ _ | exact Below.refl _ _
            clear hK K
            try simp only [pu, pa, pz, ps]
            refine tk 7 (v := ?_) (hy := ?_) (h := ?_); rotate_left
            · intro _ _; go_simp <;> with_reducible rfl
            try simp only [pu, pa, pz, ps]
            refine wpAnyH_done (by kernel_rfl) ?_ _
            have HBn := Lib.hid (HBw.out.trans (hHeld.mono HBw.out.size))
            go_wp2_with fail
            go_ret
            exact ⟨by rw [HZ.out]; rfl, HBn.out⟩
        · obtain rfl : k = N := by omega
          have r1 : ((k : Int) < (k : Int)) = False := eq_false (by omega)
          have HZ := Lib.hid (HAl.out (by have := hall.out; rwa [List.take_of_length_le (by rw [HN.out]; exact Nat.le_refl _)] at this))
          go_wp2_with fail
          go_ret
          exact ⟨by rw [HZ.out]; rfl, HBw.out⟩
end Go.Proofs.YtknbomikiakpmaaDoor
/- Layer 43: the answer's Is, by what Truth tells. -/
namespace Go.Proofs.YtknbomikiakpmaaDoor
open Go.RowKit
open NN
set_option linter.unusedSimpArgs false
set_option linter.unusedVariables false
set_option maxRecDepth 100000 in
set_option maxHeartbeats 8000000 in
theorem ref43_Is_of (a b c d : Value) (s : Sc) (hc : ∃ p q k, c = .slice p q k)
    (hTr : ∀ (e : Ex) (w : World) (v : Value), SmallE 300 e → ScAt w a b d s → ExV w v e → Calls Tryd.prog 42 #[.agg #[a, b, c, d], v] w fun r w' => r = .returned (.bool (truE s e)) ∧ Below w.heap.size w w')
    (e : Ex) : ∀ (w : World) (v : Value), SmallE 300 e → ScAt w a b d s → ExV w v e →
    Calls Tryd.prog 13 #[.agg #[a, b, c, d], v] w fun r w' => r = .returned (.bool (isR s e)) ∧ Below w.heap.size w w' := by
  induction e using Ex.ind with
  | h op t n m l ih =>
    intro w v he hs hv
    have HLeaf := Lib.hid (fun W (hb : Below w.heap.size w W) => ref43_Leaf a b c d s _ W v (hs.below hb) hc (hv.below hb))
    have HTr := Lib.hid (fun W (hb : Below w.heap.size w W) => hTr _ W v he (hs.below hb) (hv.below hb))
    have HLf := Lib.hid (fun x (hx : x ∈ l) W u (hb : Below w.heap.size w W) (hu : ExV W u x) => ref43_Leaf a b c d s x W u (hs.below hb) hc hu)
    have HIH := Lib.hid (fun x (hx : x ∈ l) W u (hb : Below w.heap.size w W) (hu : ExV W u x) => ih x hx W u (he.within x hx) (hs.below hb) hu)
    obtain ⟨sl, rfl, hr, hrow⟩ := hv
    simp only at hrow
    obtain ⟨sa, sc, rfl⟩ := row_get hrow
    have HRow := Lib.hid hrow
    obtain ⟨W0, hW0⟩ : ∃ W0, W0 = (w.alloc (.cells #[a, b, c, d] 43)).alloc (.cells #[.int .i64 op, .int .i64 t, .int .i64 n, .int .i64 m, .slice sa l.length sc] 37) := ⟨_, rfl⟩
    obtain ⟨k1, k2, k3, k4⟩ := boxed2 w [a, b, c, d] [.int .i64 op, .int .i64 t, .int .i64 n, .int .i64 m, .slice sa l.length sc] 43 37 (W' := W0) (by rw [hW0]; exact Below.refl _ _)
    have HW0 := Lib.hid hW0
    have K1 := Lib.hid k1
    have K2 := Lib.hid k2
    have z1 : w.heap.size < W0.heap.size := by omega
    have mixed : Tryd.prog.follows .mixedOrders = true := by kernel_rfl
    clear k1 k2 hW0 hr hrow ih hs he
    simp only at HLeaf HTr
    cases hlf : leafR s ⟨op, t, n, m, l⟩ with
    | true =>
      rw [hlf] at HLeaf
      rw [show isR s ⟨op, t, n, m, l⟩ = true by rw [isR_mk, if_pos hlf]]
      generalize l.length = N at *
      clear hlf HIH HRow HLf HTr
      go_enter Tryd.func13, Tryd.ntmps13
      go_wp2_with fail
      refine (HLeaf.out _ (by (repeat' (first | (with_reducible exact Below.refl _ _) | (with_reducible assumption) | (with_reducible refine below_drewN ?_ _) | (with_reducible refine Below.alloc ?_ ?_ _) | (with_reducible refine Below.drew ?_) | (with_reducible refine Below.setCell ?_ ?_ _) | go_size)))).mono ?_; rintro e w1 ⟨rfl, hb1⟩
      rw [← HW0.out] at hb1
      have HB1 := Lib.hid (k4.trans (hb1.mono k4.size))
      clear hb1
      go_wp2_with fail
      go_ret
      exact ⟨rfl, HB1.out⟩
    | false =>
      rw [hlf] at HLeaf
      cases ht : truE s ⟨op, t, n, m, l⟩ with
      | false =>
        rw [ht] at HTr
        rw [show isR s ⟨op, t, n, m, l⟩ = false by rw [isR_mk, if_neg (by rw [hlf]; simp), if_pos ht]]
        generalize l.length = N at *
        clear hlf ht HIH HRow HLf
        go_enter Tryd.func13, Tryd.ntmps13
        go_wp2_with fail
        refine (HLeaf.out _ (by (repeat' (first | (with_reducible exact Below.refl _ _) | (with_reducible assumption) | (with_reducible refine below_drewN ?_ _) | (with_reducible refine Below.alloc ?_ ?_ _) | (with_reducible refine Below.drew ?_) | (with_reducible refine Below.setCell ?_ ?_ _) | go_size)))).mono ?_; rintro e w1 ⟨rfl, hb1⟩
        rw [← HW0.out] at hb1
        have hbw := k4.trans (hb1.mono k4.size)
        have e00 := (K1.out.keep z1 hb1) 0 _ rfl
        have e01 := (K1.out.keep z1 hb1) 1 _ rfl
        have e02 := (K1.out.keep z1 hb1) 2 _ rfl
        have e03 := (K1.out.keep z1 hb1) 3 _ rfl
        have e20 := (K2.out.keep k3 hb1) 0 _ rfl
        have e21 := (K2.out.keep k3 hb1) 1 _ rfl
        have e22 := (K2.out.keep k3 hb1) 2 _ rfl
        have e23 := (K2.out.keep k3 hb1) 3 _ rfl
        have e24 := (K2.out.keep k3 hb1) 4 _ rfl
        go_wp2_with fail
        refine (HTr.out _ hbw).mono ?_; rintro e w2 ⟨rfl, hb2⟩
        have hb2 := hb1.trans (hb2.mono hb1.size)
        have hbw2 := k4.trans (hb2.mono k4.size)
        have HBw := Lib.hid hbw2
        clear e00 e01 e02 e03 e20 e21 e22 e23 e24 hb1 hbw
        go_wp2_with fail
        go_ret
        exact ⟨rfl, hbw2⟩
      | true =>
        rw [ht] at HTr
        rcases tru_cases ht with ⟨h1, _⟩ | ⟨x, hx, hxt⟩ | ⟨m', x, y, hx, hxt, hyt, hj⟩
        · rw [hlf] at h1; cases h1
        · injection hx with e1 e2 e3 e4 e5
          subst e1 e2 e3 e4 e5
          rw [show isR s ⟨6, 0, 0, 17, [x]⟩ = (x.op != 1 && leafR s x) by rw [isR_mk, if_neg (by rw [hlf]; simp), if_neg (by rw [ht]; simp), if_pos rfl]; rfl]
          obtain ⟨bx, ox, ss, sn, sc2, rfl, hbx, q1, q2, d0, d1, d2, d3, d4, dV⟩ := ex_at HRow.out (k := 0) (x := x) rfl
          have hl1 : ([x] : List Ex).length = 1 := rfl
          rw [hl1] at HW0 K2 HLeaf HTr ⊢
          clear hl1
          have HDV := Lib.hid dV
          have HI := Lib.hid (HLf.out x (by simp))
          obtain ⟨ZZ, hZZ⟩ : ∃ ZZ, (x.op != 1 && leafR s x) = ZZ := ⟨_, rfl⟩
          rw [hZZ]
          have HZZ := Lib.hid hZZ
          clear hZZ
          generalize leafR s x = Z at *
          clear dV hlf ht hxt HIH HLf HRow q1 q2
          go_enter Tryd.func13, Tryd.ntmps13
          go_wp2_with fail
          refine (HLeaf.out _ (by (repeat' (first | (with_reducible exact Below.refl _ _) | (with_reducible assumption) | (with_reducible refine below_drewN ?_ _) | (with_reducible refine Below.alloc ?_ ?_ _) | (with_reducible refine Below.drew ?_) | (with_reducible refine Below.setCell ?_ ?_ _) | go_size)))).mono ?_; rintro e w1 ⟨rfl, hb1⟩
          rw [← HW0.out] at hb1
          have hbw := k4.trans (hb1.mono k4.size)
          have e00 := (K1.out.keep z1 hb1) 0 _ rfl
          have e01 := (K1.out.keep z1 hb1) 1 _ rfl
          have e02 := (K1.out.keep z1 hb1) 2 _ rfl
          have e03 := (K1.out.keep z1 hb1) 3 _ rfl
          have e20 := (K2.out.keep k3 hb1) 0 _ rfl
          have e21 := (K2.out.keep k3 hb1) 1 _ rfl
          have e22 := (K2.out.keep k3 hb1) 2 _ rfl
          have e23 := (K2.out.keep k3 hb1) 3 _ rfl
          have e24 := (K2.out.keep k3 hb1) 4 _ rfl
          go_wp2_with fail
          refine (HTr.out _ hbw).mono ?_; rintro e w2 ⟨rfl, hb2⟩
          have hb2 := hb1.trans (hb2.mono hb1.size)
          have hbw2 := k4.trans (hb2.mono k4.size)
          have HBw := Lib.hid hbw2
          clear e00 e01 e02 e03 e20 e21 e22 e23 e24 hb1 hbw
          have y1 : w.heap.size < w2.heap.size := Nat.lt_of_lt_of_le z1 hb2.size
          have y2 : w.heap.size + 1 < w2.heap.size := Nat.lt_of_lt_of_le k3 hb2.size
          have yb : bx < w2.heap.size := Nat.lt_of_lt_of_le hbx hbw2.size
          have e00 := (K1.out.keep z1 hb2) 0 _ rfl
          have e01 := (K1.out.keep z1 hb2) 1 _ rfl
          have e02 := (K1.out.keep z1 hb2) 2 _ rfl
          have e03 := (K1.out.keep z1 hb2) 3 _ rfl
          have e20 := (K2.out.keep k3 hb2) 0 _ rfl
          have e21 := (K2.out.keep k3 hb2) 1 _ rfl
          have e22 := (K2.out.keep k3 hb2) 2 _ rfl
          have e23 := (K2.out.keep k3 hb2) 3 _ rfl
          have e24 := (K2.out.keep k3 hb2) 4 _ rfl
          have c0 : w2.cell? ⟨bx, ox, none⟩ = some (.int .i64 x.op) := (hbw2.cell (p := ⟨bx, ox, none⟩) hbx).trans (by simpa using d0)
          have c1 : w2.cell? ⟨bx, ox + 1, none⟩ = some (.int .i64 x.t) := (hbw2.cell (p := ⟨bx, ox + 1, none⟩) hbx).trans (by simpa using d1)
          have c2 : w2.cell? ⟨bx, ox + 2, none⟩ = some (.int .i64 x.n) := (hbw2.cell (p := ⟨bx, ox + 2, none⟩) hbx).trans (by simpa using d2)
          have c3 : w2.cell? ⟨bx, ox + 3, none⟩ = some (.int .i64 x.m) := (hbw2.cell (p := ⟨bx, ox + 3, none⟩) hbx).trans (by simpa using d3)
          have c4 : w2.cell? ⟨bx, ox + 4, none⟩ = some (.slice ss sn sc2) := (hbw2.cell (p := ⟨bx, ox + 4, none⟩) hbx).trans (by simpa using d4)
          have HV1 := Lib.hid (fun W (hb : Below w2.heap.size w2 W) => (HDV.out.below hbw2).below hb)
          clear d0 d1 d2 d3 d4 hb2 hbw2
          obtain ⟨xop, xt, xn, xm, xl⟩ := x
          simp only at c0 c1 c2 c3 HV1 HZZ
          by_cases hx1 : xop = 1
          · have q1 : (xop != 1) = false := by simp [hx1]
            have HZ := Lib.hid (show ZZ = false by rw [← HZZ.out, q1]; rfl)
            clear hx1
            go_wp2_with fail
            have qq0 := fun wt (h : Below w2.heap.size w2 wt) => cellB h e00 y1
            have qq1 := fun wt (h : Below w2.heap.size w2 wt) => cellB h e01 y1
            have qq2 := fun wt (h : Below w2.heap.size w2 wt) => cellB h e02 y1
            have qq3 := fun wt (h : Below w2.heap.size w2 wt) => cellB h e03 y1
            have qq4 := fun wt (h : Below w2.heap.size w2 wt) => cellB h e24 y2
            have qq5 := fun wt (h : Below w2.heap.size w2 wt) => cellB h c0 yb
            have qq6 := fun wt (h : Below w2.heap.size w2 wt) => cellB h c1 yb
            have qq7 := fun wt (h : Below w2.heap.size w2 wt) => cellB h c2 yb
            have qq8 := fun wt (h : Below w2.heap.size w2 wt) => cellB h c3 yb
            have qq9 := fun wt (h : Below w2.heap.size w2 wt) => cellB h c4 yb
            refine wp_region_held_drew (S := (fun w' => Below w2.heap.size w2 w')) (by kernel_rfl) ?_ (fun hHeld => ?_)
            · (try dsimp only); first | assumption | exact Below.alloc hHeld hHeld.size _ | exact (Below.refl _ _).drew | exact Below.drew (Below.refl _ _) | exact Below_drewN _ _ _ | exact Below.refl _ _
            refine tk 0 (v := ?_) (hy := ?_) (h := ?_); rotate_left
            · intro _ _; go_simp <;> with_reducible rfl
            try simp only [pu, pa, pz, ps]
            refine tk 1 (v := ?_) (hy := ?_) (h := ?_); rotate_left
            · intro wt hSw; (try dsimp only at hSw); go_simp <;> with_reducible rfl
            try simp only [pu, pa, pz, ps]
            refine tk 2 (v := ?_) (hy := ?_) (h := ?_); rotate_left
            · intro _ _; go_simp <;> with_reducible rfl
            try simp only [pu, pa, pz, ps]
            refine tk 3 (v := ?_) (hy := ?_) (h := ?_); rotate_left
            · intro _ _; go_simp <;> with_reducible rfl
            try simp only [pu, pa, pz, ps]
            refine tk 4 (v := ?_) (hy := ?_) (h := ?_); rotate_left
            · intro wt hSw; (try dsimp only at hSw); go_simp <;> with_reducible rfl
            try simp only [pu, pa, pz, ps]
            refine tk 5 (v := ?_) (hy := ?_) (h := ?_); rotate_left
            · intro _ _; go_simp <;> with_reducible rfl
            try simp only [pu, pa, pz, ps]
            refine tk 6 (v := ?_) (hy := ?_) (h := ?_); rotate_left
            · intro _ _; go_simp <;> with_reducible rfl
            try simp only [pu, pa, pz, ps]
            refine sk 7 (h := ?_)
            try simp only [pu, pa, pz, ps]
            refine sk 8 (h := ?_)
            try simp only [pu, pa, pz, ps]
            refine sk 9 (h := ?_)
            try simp only [pu, pa, pz, ps]
            refine sk 10 (h := ?_)
            try simp only [pu, pa, pz, ps]
            refine sk 11 (h := ?_)
            try simp only [pu, pa, pz, ps]
            refine sk 12 (h := ?_)
            try simp only [pu, pa, pz, ps]
            refine tk 13 (v := ?_) (hy := ?_) (h := ?_); rotate_left
            · intro _ _; go_simp <;> with_reducible rfl
            try simp only [pu, pa, pz, ps]
            refine tk 14 (v := ?_) (hy := ?_) (h := ?_); rotate_left
            · intro _ _; go_simp <;> with_reducible rfl
            try simp only [pu, pa, pz, ps]
            refine wpAnyH_done (by kernel_rfl) ?_ _
            have HBn := Lib.hid (HBw.out.trans (hHeld.mono HBw.out.size))
            go_wp2_with fail
            go_ret
            exact ⟨by rw [HZ.out]; rfl, HBn.out⟩
          · have q1 : (xop != 1) = true := by simpa using hx1
            have HZ := Lib.hid (show ZZ = Z by rw [← HZZ.out, q1]; rfl)
            clear hx1
            go_wp2_with fail
            have qq0 := fun wt (h : Below w2.heap.size w2 wt) => cellB h e00 y1
            have qq1 := fun wt (h : Below w2.heap.size w2 wt) => cellB h e01 y1
            have qq2 := fun wt (h : Below w2.heap.size w2 wt) => cellB h e02 y1
            have qq3 := fun wt (h : Below w2.heap.size w2 wt) => cellB h e03 y1
            have qq4 := fun wt (h : Below w2.heap.size w2 wt) => cellB h e24 y2
            have qq5 := fun wt (h : Below w2.heap.size w2 wt) => cellB h c0 yb
            have qq6 := fun wt (h : Below w2.heap.size w2 wt) => cellB h c1 yb
            have qq7 := fun wt (h : Below w2.heap.size w2 wt) => cellB h c2 yb
            have qq8 := fun wt (h : Below w2.heap.size w2 wt) => cellB h c3 yb
            have qq9 := fun wt (h : Below w2.heap.size w2 wt) => cellB h c4 yb
            refine wp_region_held_drew (S := (fun w' => Below w2.heap.size w2 w')) (by kernel_rfl) ?_ (fun hHeld => ?_)
            · (try dsimp only); first | assumption | exact Below.alloc hHeld hHeld.size _ | exact (Below.refl _ _).drew | exact Below.drew (Below.refl _ _) | exact Below_drewN _ _ _ | exact Below.refl _ _
            refine tk 0 (v := ?_) (hy := ?_) (h := ?_); rotate_left
            · intro _ _; go_simp <;> with_reducible rfl
            try simp only [pu, pa, pz, ps]
            refine tk 1 (v := ?_) (hy := ?_) (h := ?_); rotate_left
            · intro wt hSw; (try dsimp only at hSw); go_simp <;> with_reducible rfl
            try simp only [pu, pa, pz, ps]
            refine tk 2 (v := ?_) (hy := ?_) (h := ?_); rotate_left
            · intro _ _; go_simp <;> with_reducible rfl
            try simp only [pu, pa, pz, ps]
            refine tk 3 (v := ?_) (hy := ?_) (h := ?_); rotate_left
            · intro _ _; go_simp <;> with_reducible rfl
            try simp only [pu, pa, pz, ps]
            refine tk 4 (v := ?_) (hy := ?_) (h := ?_); rotate_left
            · intro wt hSw; (try dsimp only at hSw); go_simp <;> with_reducible rfl
            try simp only [pu, pa, pz, ps]
            refine tk 5 (v := ?_) (hy := ?_) (h := ?_); rotate_left
            · intro _ _; go_simp <;> with_reducible rfl
            try simp only [pu, pa, pz, ps]
            refine tk 6 (v := ?_) (hy := ?_) (h := ?_); rotate_left
            · intro _ _; go_simp <;> with_reducible rfl
            try simp only [pu, pa, pz, ps]
            refine tk 7 (v := ?_) (hy := ?_) (h := ?_); rotate_left
            · intro wt hSw; (try dsimp only at hSw); go_simp <;> with_reducible rfl
            try simp only [pu, pa, pz, ps]
            refine tk 8 (v := ?_) (hy := ?_) (h := ?_); rotate_left
            · intro _ _; go_simp <;> with_reducible rfl
            try simp only [pu, pa, pz, ps]
            refine tk 9 (v := ?_) (hy := ?_) (h := ?_); rotate_left
            · intro wt hSw; (try dsimp only at hSw); go_simp <;> with_reducible rfl
            try simp only [pu, pa, pz, ps]
            refine tk 10 (v := ?_) (hy := ?_) (h := ?_); rotate_left
            · intro _ _; go_simp <;> with_reducible rfl
            try simp only [pu, pa, pz, ps]
            refine tk 11 (v := ?_) (hy := ?_) (h := ?_); rotate_left
            · intro wt hSw; (try dsimp only at hSw); go_simp <;> with_reducible rfl
            try simp only [pu, pa, pz, ps]
            refine wpAnyH_ready (rs := [12]) (by kernel_rfl) (by simp) ?_
            refine AllReadyH.cons (o := ⟨_, _, _, _, _, _⟩) rfl (fun K hK => ?_) AllReadyH.nil
            go_simp
            refine (HI.out _ _ (HBw.out.trans (hHeld.mono HBw.out.size)) (HV1.out _ hHeld)).mono ?_; rintro e v1 ⟨rfl, hb_v1⟩; have hHeld := hHeld.trans (hb_v1.mono hHeld.size); clear hb_v1
            go_wp2_with fail
            refine hK.out _ _ ?_ (fun hHeld => ?_)
            · (try dsimp only); first | assumption | exact Below.alloc hHeld hHeld.size _ | exact (Below.refl _ _).drew | exact Below.drew (Below.refl _ _) | exact Below_drewN _ _ _ | exact Below.refl _ _
            clear hK K
            try simp only [pu, pa, pz, ps]
            refine tk 13 (v := ?_) (hy := ?_) (h := ?_); rotate_left
            · intro _ _; go_simp <;> with_reducible rfl
            try simp only [pu, pa, pz, ps]
            refine tk 14 (v := ?_) (hy := ?_) (h := ?_); rotate_left
            · intro _ _; go_simp <;> with_reducible rfl
            try simp only [pu, pa, pz, ps]
            refine wpAnyH_done (by kernel_rfl) ?_ _
            have HBn := Lib.hid (HBw.out.trans (hHeld.mono HBw.out.size))
            go_wp2_with fail
            go_ret
            exact ⟨by rw [HZ.out]; rfl, HBn.out⟩
        · injection hx with e1 e2 e3 e4 e5
          subst e1 e2 e3 e4 e5
          rw [show isR s ⟨7, 0, 0, m, [x, y]⟩ = (jun m && isR s x && isR s y) by rw [isR_mk, if_neg (by rw [hlf]; simp), if_neg (by rw [ht]; simp), if_neg (by simp)]; rfl]
          obtain ⟨bx, ox, ss, sn, sc2, rfl, hbx, _, _, d0, d1, d2, d3, d4, dV⟩ := ex_at HRow.out (k := 0) (x := x) rfl
          obtain ⟨_, _, ss', sn', sc2', hh, _, _, _, d5, d6, d7, d8, d9, dV'⟩ := ex_at HRow.out (k := 1) (x := y) rfl
          obtain ⟨rfl, rfl⟩ : bx = _ ∧ ox = _ := by injection hh with hh; injection hh with h1 h2; exact ⟨h1, h2⟩
          have hl2 : ([x, y] : List Ex).length = 2 := rfl
          rw [hl2] at HW0 K2 HLeaf HTr ⊢
          clear hl2
          have HDV := Lib.hid (And.intro dV dV')
          have HX := Lib.hid (HIH.out x (by simp))
          have HY := Lib.hid (HIH.out y (by simp))
          generalize isR s x = zx at *
          generalize isR s y = zy at *
          obtain ⟨ZZ, hZZ⟩ : ∃ ZZ, (jun m && zx && zy) = ZZ := ⟨_, rfl⟩
          rw [hZZ]
          have HZZ := Lib.hid hZZ
          clear dV dV' hlf ht hxt hyt hj hh hZZ HIH HLf HRow
          go_enter Tryd.func13, Tryd.ntmps13
          go_wp2_with fail
          refine (HLeaf.out _ (by (repeat' (first | (with_reducible exact Below.refl _ _) | (with_reducible assumption) | (with_reducible refine below_drewN ?_ _) | (with_reducible refine Below.alloc ?_ ?_ _) | (with_reducible refine Below.drew ?_) | (with_reducible refine Below.setCell ?_ ?_ _) | go_size)))).mono ?_; rintro e w1 ⟨rfl, hb1⟩
          rw [← HW0.out] at hb1
          have hbw := k4.trans (hb1.mono k4.size)
          have e00 := (K1.out.keep z1 hb1) 0 _ rfl
          have e01 := (K1.out.keep z1 hb1) 1 _ rfl
          have e02 := (K1.out.keep z1 hb1) 2 _ rfl
          have e03 := (K1.out.keep z1 hb1) 3 _ rfl
          have e20 := (K2.out.keep k3 hb1) 0 _ rfl
          have e21 := (K2.out.keep k3 hb1) 1 _ rfl
          have e22 := (K2.out.keep k3 hb1) 2 _ rfl
          have e23 := (K2.out.keep k3 hb1) 3 _ rfl
          have e24 := (K2.out.keep k3 hb1) 4 _ rfl
          go_wp2_with fail
          refine (HTr.out _ hbw).mono ?_; rintro e w2 ⟨rfl, hb2⟩
          have hb2 := hb1.trans (hb2.mono hb1.size)
          have hbw2 := k4.trans (hb2.mono k4.size)
          have HBw := Lib.hid hbw2
          clear e00 e01 e02 e03 e20 e21 e22 e23 e24 hb1 hbw
          have y1 : w.heap.size < w2.heap.size := Nat.lt_of_lt_of_le z1 hb2.size
          have y2 : w.heap.size + 1 < w2.heap.size := Nat.lt_of_lt_of_le k3 hb2.size
          have yb : bx < w2.heap.size := Nat.lt_of_lt_of_le hbx hbw2.size
          have e00 := (K1.out.keep z1 hb2) 0 _ rfl
          have e01 := (K1.out.keep z1 hb2) 1 _ rfl
          have e02 := (K1.out.keep z1 hb2) 2 _ rfl
          have e03 := (K1.out.keep z1 hb2) 3 _ rfl
          have e20 := (K2.out.keep k3 hb2) 0 _ rfl
          have e21 := (K2.out.keep k3 hb2) 1 _ rfl
          have e22 := (K2.out.keep k3 hb2) 2 _ rfl
          have e23 := (K2.out.keep k3 hb2) 3 _ rfl
          have e24 := (K2.out.keep k3 hb2) 4 _ rfl
          have c0 : w2.cell? ⟨bx, ox, none⟩ = some (.int .i64 x.op) := (hbw2.cell (p := ⟨bx, ox, none⟩) hbx).trans (by simpa using d0)
          have c1 : w2.cell? ⟨bx, ox + 1, none⟩ = some (.int .i64 x.t) := (hbw2.cell (p := ⟨bx, ox + 1, none⟩) hbx).trans (by simpa using d1)
          have c2 : w2.cell? ⟨bx, ox + 2, none⟩ = some (.int .i64 x.n) := (hbw2.cell (p := ⟨bx, ox + 2, none⟩) hbx).trans (by simpa using d2)
          have c3 : w2.cell? ⟨bx, ox + 3, none⟩ = some (.int .i64 x.m) := (hbw2.cell (p := ⟨bx, ox + 3, none⟩) hbx).trans (by simpa using d3)
          have c4 : w2.cell? ⟨bx, ox + 4, none⟩ = some (.slice ss sn sc2) := (hbw2.cell (p := ⟨bx, ox + 4, none⟩) hbx).trans (by simpa using d4)
          have c5 : w2.cell? ⟨bx, ox + 5, none⟩ = some (.int .i64 y.op) := (hbw2.cell (p := ⟨bx, ox + 5, none⟩) hbx).trans (by simpa using d5)
          have c6 : w2.cell? ⟨bx, ox + 5 + 1, none⟩ = some (.int .i64 y.t) := (hbw2.cell (p := ⟨bx, ox + 5 + 1, none⟩) hbx).trans (by simpa using d6)
          have c7 : w2.cell? ⟨bx, ox + 5 + 2, none⟩ = some (.int .i64 y.n) := (hbw2.cell (p := ⟨bx, ox + 5 + 2, none⟩) hbx).trans (by simpa using d7)
          have c8 : w2.cell? ⟨bx, ox + 5 + 3, none⟩ = some (.int .i64 y.m) := (hbw2.cell (p := ⟨bx, ox + 5 + 3, none⟩) hbx).trans (by simpa using d8)
          have c9 : w2.cell? ⟨bx, ox + 5 + 4, none⟩ = some (.slice ss' sn' sc2') := (hbw2.cell (p := ⟨bx, ox + 5 + 4, none⟩) hbx).trans (by simpa using d9)
          have HVx := Lib.hid (fun W (hb : Below w2.heap.size w2 W) => (HDV.out.1.below hbw2).below hb)
          have HVy := Lib.hid (fun W (hb : Below w2.heap.size w2 W) => (HDV.out.2.below hbw2).below hb)
          clear d0 d1 d2 d3 d4 d5 d6 d7 d8 d9 hb2 hbw2
          obtain ⟨xop, xt, xn, xm, xl⟩ := x
          obtain ⟨yop, yt, yn, ym, yl⟩ := y
          simp only at c0 c1 c2 c3 c5 c6 c7 c8 HVx HVy
          by_cases c14 : m = 14
          · subst c14
            cases zx with
            | false =>
              have HZ := Lib.hid (show ZZ = false by rw [← HZZ.out]; simp)
              go_wp2_with fail
              have qq0 := fun wt (h : Below w2.heap.size w2 wt) => cellB h e00 y1
              have qq1 := fun wt (h : Below w2.heap.size w2 wt) => cellB h e01 y1
              have qq2 := fun wt (h : Below w2.heap.size w2 wt) => cellB h e02 y1
              have qq3 := fun wt (h : Below w2.heap.size w2 wt) => cellB h e03 y1
              have qq4 := fun wt (h : Below w2.heap.size w2 wt) => cellB h e23 y2
              have qq5 := fun wt (h : Below w2.heap.size w2 wt) => cellB h e24 y2
              have qq6 := fun wt (h : Below w2.heap.size w2 wt) => cellB h c0 yb
              have qq7 := fun wt (h : Below w2.heap.size w2 wt) => cellB h c1 yb
              have qq8 := fun wt (h : Below w2.heap.size w2 wt) => cellB h c2 yb
              have qq9 := fun wt (h : Below w2.heap.size w2 wt) => cellB h c3 yb
              have qq10 := fun wt (h : Below w2.heap.size w2 wt) => cellB h c4 yb
              have qq11 := fun wt (h : Below w2.heap.size w2 wt) => cellB h c5 yb
              have qq12 := fun wt (h : Below w2.heap.size w2 wt) => cellB h c6 yb
              have qq13 := fun wt (h : Below w2.heap.size w2 wt) => cellB h c7 yb
              have qq14 := fun wt (h : Below w2.heap.size w2 wt) => cellB h c8 yb
              have qq15 := fun wt (h : Below w2.heap.size w2 wt) => cellB h c9 yb
              refine wp_region_held_drew (S := (fun w' => Below w2.heap.size w2 w')) (by kernel_rfl) ?_ (fun hHeld => ?_)
              · (try dsimp only); first | assumption | exact Below.alloc hHeld hHeld.size _ | exact (Below.refl _ _).drew | exact Below.drew (Below.refl _ _) | exact Below_drewN _ _ _ | exact Below.refl _ _
              refine tk 0 (v := ?_) (hy := ?_) (h := ?_); rotate_left
              · intro _ _; go_simp <;> with_reducible rfl
              try simp only [pu, pa, pz, ps]
              refine tk 1 (v := ?_) (hy := ?_) (h := ?_); rotate_left
              · intro wt hSw; (try dsimp only at hSw); go_simp <;> with_reducible rfl
              try simp only [pu, pa, pz, ps]
              refine tk 2 (v := ?_) (hy := ?_) (h := ?_); rotate_left
              · intro _ _; go_simp <;> with_reducible rfl
              try simp only [pu, pa, pz, ps]
              refine tk 3 (v := ?_) (hy := ?_) (h := ?_); rotate_left
              · intro _ _; go_simp <;> with_reducible rfl
              try simp only [pu, pa, pz, ps]
              refine sk 4 (h := ?_)
              try simp only [pu, pa, pz, ps]
              refine sk 5 (h := ?_)
              try simp only [pu, pa, pz, ps]
              refine sk 6 (h := ?_)
              try simp only [pu, pa, pz, ps]
              refine tk 7 (v := ?_) (hy := ?_) (h := ?_); rotate_left
              · intro _ _; go_simp <;> with_reducible rfl
              try simp only [pu, pa, pz, ps]
              refine tk 8 (v := ?_) (hy := ?_) (h := ?_); rotate_left
              · intro _ _; go_simp <;> with_reducible rfl
              try simp only [pu, pa, pz, ps]
              refine tk 9 (v := ?_) (hy := ?_) (h := ?_); rotate_left
              · intro wt hSw; (try dsimp only at hSw); go_simp <;> with_reducible rfl
              try simp only [pu, pa, pz, ps]
              refine tk 10 (v := ?_) (hy := ?_) (h := ?_); rotate_left
              · intro _ _; go_simp <;> with_reducible rfl
              try simp only [pu, pa, pz, ps]
              refine tk 11 (v := ?_) (hy := ?_) (h := ?_); rotate_left
              · intro wt hSw; (try dsimp only at hSw); go_simp <;> with_reducible rfl
              try simp only [pu, pa, pz, ps]
              refine tk 12 (v := ?_) (hy := ?_) (h := ?_); rotate_left
              · intro _ _; go_simp <;> with_reducible rfl
              try simp only [pu, pa, pz, ps]
              refine tk 13 (v := ?_) (hy := ?_) (h := ?_); rotate_left
              · intro wt hSw; (try dsimp only at hSw); go_simp <;> with_reducible rfl
              try simp only [pu, pa, pz, ps]
              refine wpAnyH_ready (rs := [14]) (by kernel_rfl) (by simp) ?_
              refine AllReadyH.cons (o := ⟨_, _, _, _, _, _⟩) rfl (fun K hK => ?_) AllReadyH.nil
              go_simp
              refine (HX.out _ _ (HBw.out.trans (hHeld.mono HBw.out.size)) (HVx.out _ hHeld)).mono ?_; rintro e v2 ⟨rfl, hb_v2⟩; have hHeld := hHeld.trans (hb_v2.mono hHeld.size); clear hb_v2
              go_wp2_with fail
              refine hK.out _ _ ?_ (fun hHeld => ?_)
              · (try dsimp only); first | assumption | exact Below.alloc hHeld hHeld.size _ | exact (Below.refl _ _).drew | exact Below.drew (Below.refl _ _) | exact Below_drewN _ _ _ | exact Below.refl _ _
              clear hK K
              try simp only [pu, pa, pz, ps]
              refine tk 15 (v := ?_) (hy := ?_) (h := ?_); rotate_left
              · intro _ _; go_simp <;> with_reducible rfl
              try simp only [pu, pa, pz, ps]
              refine tk 16 (v := ?_) (hy := ?_) (h := ?_); rotate_left
              · intro _ _; go_simp <;> with_reducible rfl
              try simp only [pu, pa, pz, ps]
              refine sk 17 (h := ?_)
              try simp only [pu, pa, pz, ps]
              refine sk 18 (h := ?_)
              try simp only [pu, pa, pz, ps]
              refine sk 19 (h := ?_)
              try simp only [pu, pa, pz, ps]
              refine sk 20 (h := ?_)
              try simp only [pu, pa, pz, ps]
              refine sk 21 (h := ?_)
              try simp only [pu, pa, pz, ps]
              refine sk 22 (h := ?_)
              try simp only [pu, pa, pz, ps]
              refine tk 23 (v := ?_) (hy := ?_) (h := ?_); rotate_left
              · intro _ _; go_simp <;> with_reducible rfl
              try simp only [pu, pa, pz, ps]
              refine tk 24 (v := ?_) (hy := ?_) (h := ?_); rotate_left
              · intro _ _; go_simp <;> with_reducible rfl
              try simp only [pu, pa, pz, ps]
              refine wpAnyH_done (by kernel_rfl) ?_ _
              have HBn := Lib.hid (HBw.out.trans (hHeld.mono HBw.out.size))
              go_wp2_with fail
              go_ret
              exact ⟨by rw [HZ.out]; rfl, HBn.out⟩
            | true =>
              have HZ := Lib.hid (show ZZ = zy by rw [← HZZ.out]; simp [jun])
              go_wp2_with fail
              have qq0 := fun wt (h : Below w2.heap.size w2 wt) => cellB h e00 y1
              have qq1 := fun wt (h : Below w2.heap.size w2 wt) => cellB h e01 y1
              have qq2 := fun wt (h : Below w2.heap.size w2 wt) => cellB h e02 y1
              have qq3 := fun wt (h : Below w2.heap.size w2 wt) => cellB h e03 y1
              have qq4 := fun wt (h : Below w2.heap.size w2 wt) => cellB h e23 y2
              have qq5 := fun wt (h : Below w2.heap.size w2 wt) => cellB h e24 y2
              have qq6 := fun wt (h : Below w2.heap.size w2 wt) => cellB h c0 yb
              have qq7 := fun wt (h : Below w2.heap.size w2 wt) => cellB h c1 yb
              have qq8 := fun wt (h : Below w2.heap.size w2 wt) => cellB h c2 yb
              have qq9 := fun wt (h : Below w2.heap.size w2 wt) => cellB h c3 yb
              have qq10 := fun wt (h : Below w2.heap.size w2 wt) => cellB h c4 yb
              have qq11 := fun wt (h : Below w2.heap.size w2 wt) => cellB h c5 yb
              have qq12 := fun wt (h : Below w2.heap.size w2 wt) => cellB h c6 yb
              have qq13 := fun wt (h : Below w2.heap.size w2 wt) => cellB h c7 yb
              have qq14 := fun wt (h : Below w2.heap.size w2 wt) => cellB h c8 yb
              have qq15 := fun wt (h : Below w2.heap.size w2 wt) => cellB h c9 yb
              refine wp_region_held_drew (S := (fun w' => Below w2.heap.size w2 w')) (by kernel_rfl) ?_ (fun hHeld => ?_)
              · (try dsimp only); first | assumption | exact Below.alloc hHeld hHeld.size _ | exact (Below.refl _ _).drew | exact Below.drew (Below.refl _ _) | exact Below_drewN _ _ _ | exact Below.refl _ _
              refine tk 0 (v := ?_) (hy := ?_) (h := ?_); rotate_left
              · intro _ _; go_simp <;> with_reducible rfl
              try simp only [pu, pa, pz, ps]
              refine tk 1 (v := ?_) (hy := ?_) (h := ?_); rotate_left
              · intro wt hSw; (try dsimp only at hSw); go_simp <;> with_reducible rfl
              try simp only [pu, pa, pz, ps]
              refine tk 2 (v := ?_) (hy := ?_) (h := ?_); rotate_left
              · intro _ _; go_simp <;> with_reducible rfl
              try simp only [pu, pa, pz, ps]
              refine tk 3 (v := ?_) (hy := ?_) (h := ?_); rotate_left
              · intro _ _; go_simp <;> with_reducible rfl
              try simp only [pu, pa, pz, ps]
              refine sk 4 (h := ?_)
              try simp only [pu, pa, pz, ps]
              refine sk 5 (h := ?_)
              try simp only [pu, pa, pz, ps]
              refine sk 6 (h := ?_)
              try simp only [pu, pa, pz, ps]
              refine tk 7 (v := ?_) (hy := ?_) (h := ?_); rotate_left
              · intro _ _; go_simp <;> with_reducible rfl
              try simp only [pu, pa, pz, ps]
              refine tk 8 (v := ?_) (hy := ?_) (h := ?_); rotate_left
              · intro _ _; go_simp <;> with_reducible rfl
              try simp only [pu, pa, pz, ps]
              refine tk 9 (v := ?_) (hy := ?_) (h := ?_); rotate_left
              · intro wt hSw; (try dsimp only at hSw); go_simp <;> with_reducible rfl
              try simp only [pu, pa, pz, ps]
              refine tk 10 (v := ?_) (hy := ?_) (h := ?_); rotate_left
              · intro _ _; go_simp <;> with_reducible rfl
              try simp only [pu, pa, pz, ps]
              refine tk 11 (v := ?_) (hy := ?_) (h := ?_); rotate_left
              · intro wt hSw; (try dsimp only at hSw); go_simp <;> with_reducible rfl
              try simp only [pu, pa, pz, ps]
              refine tk 12 (v := ?_) (hy := ?_) (h := ?_); rotate_left
              · intro _ _; go_simp <;> with_reducible rfl
              try simp only [pu, pa, pz, ps]
              refine tk 13 (v := ?_) (hy := ?_) (h := ?_); rotate_left
              · intro wt hSw; (try dsimp only at hSw); go_simp <;> with_reducible rfl
              try simp only [pu, pa, pz, ps]
              refine wpAnyH_ready (rs := [14]) (by kernel_rfl) (by simp) ?_
              refine AllReadyH.cons (o := ⟨_, _, _, _, _, _⟩) rfl (fun K hK => ?_) AllReadyH.nil
              go_simp
              refine (HX.out _ _ (HBw.out.trans (hHeld.mono HBw.out.size)) (HVx.out _ hHeld)).mono ?_; rintro e v2 ⟨rfl, hb_v2⟩; have hHeld := hHeld.trans (hb_v2.mono hHeld.size); clear hb_v2
              go_wp2_with fail
              refine hK.out _ _ ?_ (fun hHeld => ?_)
              · (try dsimp only); first | assumption | exact Below.alloc hHeld hHeld.size _ | exact (Below.refl _ _).drew | exact Below.drew (Below.refl _ _) | exact Below_drewN _ _ _ | exact Below.refl _ _
              clear hK K
              try simp only [pu, pa, pz, ps]
              refine tk 15 (v := ?_) (hy := ?_) (h := ?_); rotate_left
              · intro _ _; go_simp <;> with_reducible rfl
              try simp only [pu, pa, pz, ps]
              refine tk 16 (v := ?_) (hy := ?_) (h := ?_); rotate_left
              · intro _ _; go_simp <;> with_reducible rfl
              try simp only [pu, pa, pz, ps]
              refine tk 17 (v := ?_) (hy := ?_) (h := ?_); rotate_left
              · intro wt hSw; (try dsimp only at hSw); go_simp <;> with_reducible rfl
              try simp only [pu, pa, pz, ps]
              refine tk 18 (v := ?_) (hy := ?_) (h := ?_); rotate_left
              · intro _ _; go_simp <;> with_reducible rfl
              try simp only [pu, pa, pz, ps]
              refine tk 19 (v := ?_) (hy := ?_) (h := ?_); rotate_left
              · intro wt hSw; (try dsimp only at hSw); go_simp <;> with_reducible rfl
              try simp only [pu, pa, pz, ps]
              refine tk 20 (v := ?_) (hy := ?_) (h := ?_); rotate_left
              · intro _ _; go_simp <;> with_reducible rfl
              try simp only [pu, pa, pz, ps]
              refine tk 21 (v := ?_) (hy := ?_) (h := ?_); rotate_left
              · intro wt hSw; (try dsimp only at hSw); go_simp <;> with_reducible rfl
              try simp only [pu, pa, pz, ps]
              refine wpAnyH_ready (rs := [22]) (by kernel_rfl) (by simp) ?_
              refine AllReadyH.cons (o := ⟨_, _, _, _, _, _⟩) rfl (fun K hK => ?_) AllReadyH.nil
              go_simp
              refine (HY.out _ _ (HBw.out.trans (hHeld.mono HBw.out.size)) (HVy.out _ hHeld)).mono ?_; rintro e v3 ⟨rfl, hb_v3⟩; have hHeld := hHeld.trans (hb_v3.mono hHeld.size); clear hb_v3
              go_wp2_with fail
              refine hK.out _ _ ?_ (fun hHeld => ?_)
              · (try dsimp only); first | assumption | exact Below.alloc hHeld hHeld.size _ | exact (Below.refl _ _).drew | exact Below.drew (Below.refl _ _) | exact Below_drewN _ _ _ | exact Below.refl _ _
              clear hK K
              try simp only [pu, pa, pz, ps]
              refine tk 23 (v := ?_) (hy := ?_) (h := ?_); rotate_left
              · intro _ _; go_simp <;> with_reducible rfl
              try simp only [pu, pa, pz, ps]
              refine tk 24 (v := ?_) (hy := ?_) (h := ?_); rotate_left
              · intro _ _; go_simp <;> with_reducible rfl
              try simp only [pu, pa, pz, ps]
              refine wpAnyH_done (by kernel_rfl) ?_ _
              have HBn := Lib.hid (HBw.out.trans (hHeld.mono HBw.out.size))
              go_wp2_with fail
              go_ret
              exact ⟨by rw [HZ.out]; rfl, HBn.out⟩
          have q14 : (m == 14) = false := beq_eq_false_iff_ne.2 c14
          by_cases c15 : m = 15
          · subst c15
            cases zx with
            | false =>
              have HZ := Lib.hid (show ZZ = false by rw [← HZZ.out]; simp)
              go_wp2_with fail
              have qq0 := fun wt (h : Below w2.heap.size w2 wt) => cellB h e00 y1
              have qq1 := fun wt (h : Below w2.heap.size w2 wt) => cellB h e01 y1
              have qq2 := fun wt (h : Below w2.heap.size w2 wt) => cellB h e02 y1
              have qq3 := fun wt (h : Below w2.heap.size w2 wt) => cellB h e03 y1
              have qq4 := fun wt (h : Below w2.heap.size w2 wt) => cellB h e23 y2
              have qq5 := fun wt (h : Below w2.heap.size w2 wt) => cellB h e24 y2
              have qq6 := fun wt (h : Below w2.heap.size w2 wt) => cellB h c0 yb
              have qq7 := fun wt (h : Below w2.heap.size w2 wt) => cellB h c1 yb
              have qq8 := fun wt (h : Below w2.heap.size w2 wt) => cellB h c2 yb
              have qq9 := fun wt (h : Below w2.heap.size w2 wt) => cellB h c3 yb
              have qq10 := fun wt (h : Below w2.heap.size w2 wt) => cellB h c4 yb
              have qq11 := fun wt (h : Below w2.heap.size w2 wt) => cellB h c5 yb
              have qq12 := fun wt (h : Below w2.heap.size w2 wt) => cellB h c6 yb
              have qq13 := fun wt (h : Below w2.heap.size w2 wt) => cellB h c7 yb
              have qq14 := fun wt (h : Below w2.heap.size w2 wt) => cellB h c8 yb
              have qq15 := fun wt (h : Below w2.heap.size w2 wt) => cellB h c9 yb
              refine wp_region_held_drew (S := (fun w' => Below w2.heap.size w2 w')) (by kernel_rfl) ?_ (fun hHeld => ?_)
              · (try dsimp only); first | assumption | exact Below.alloc hHeld hHeld.size _ | exact (Below.refl _ _).drew | exact Below.drew (Below.refl _ _) | exact Below_drewN _ _ _ | exact Below.refl _ _
              refine tk 0 (v := ?_) (hy := ?_) (h := ?_); rotate_left
              · intro _ _; go_simp <;> with_reducible rfl
              try simp only [pu, pa, pz, ps]
              refine tk 1 (v := ?_) (hy := ?_) (h := ?_); rotate_left
              · intro wt hSw; (try dsimp only at hSw); go_simp <;> with_reducible rfl
              try simp only [pu, pa, pz, ps]
              refine tk 2 (v := ?_) (hy := ?_) (h := ?_); rotate_left
              · intro _ _; go_simp <;> with_reducible rfl
              try simp only [pu, pa, pz, ps]
              refine tk 3 (v := ?_) (hy := ?_) (h := ?_); rotate_left
              · intro _ _; go_simp <;> with_reducible rfl
              try simp only [pu, pa, pz, ps]
              refine tk 4 (v := ?_) (hy := ?_) (h := ?_); rotate_left
              · intro _ _; go_simp <;> with_reducible rfl
              try simp only [pu, pa, pz, ps]
              refine tk 5 (v := ?_) (hy := ?_) (h := ?_); rotate_left
              · intro wt hSw; (try dsimp only at hSw); go_simp <;> with_reducible rfl
              try simp only [pu, pa, pz, ps]
              refine tk 6 (v := ?_) (hy := ?_) (h := ?_); rotate_left
              · intro _ _; go_simp <;> with_reducible rfl
              try simp only [pu, pa, pz, ps]
              refine tk 7 (v := ?_) (hy := ?_) (h := ?_); rotate_left
              · intro _ _; go_simp <;> with_reducible rfl
              try simp only [pu, pa, pz, ps]
              refine tk 8 (v := ?_) (hy := ?_) (h := ?_); rotate_left
              · intro _ _; go_simp <;> with_reducible rfl
              try simp only [pu, pa, pz, ps]
              refine tk 9 (v := ?_) (hy := ?_) (h := ?_); rotate_left
              · intro wt hSw; (try dsimp only at hSw); go_simp <;> with_reducible rfl
              try simp only [pu, pa, pz, ps]
              refine tk 10 (v := ?_) (hy := ?_) (h := ?_); rotate_left
              · intro _ _; go_simp <;> with_reducible rfl
              try simp only [pu, pa, pz, ps]
              refine tk 11 (v := ?_) (hy := ?_) (h := ?_); rotate_left
              · intro wt hSw; (try dsimp only at hSw); go_simp <;> with_reducible rfl
              try simp only [pu, pa, pz, ps]
              refine tk 12 (v := ?_) (hy := ?_) (h := ?_); rotate_left
              · intro _ _; go_simp <;> with_reducible rfl
              try simp only [pu, pa, pz, ps]
              refine tk 13 (v := ?_) (hy := ?_) (h := ?_); rotate_left
              · intro wt hSw; (try dsimp only at hSw); go_simp <;> with_reducible rfl
              try simp only [pu, pa, pz, ps]
              refine wpAnyH_ready (rs := [14]) (by kernel_rfl) (by simp) ?_
              refine AllReadyH.cons (o := ⟨_, _, _, _, _, _⟩) rfl (fun K hK => ?_) AllReadyH.nil
              go_simp
              refine (HX.out _ _ (HBw.out.trans (hHeld.mono HBw.out.size)) (HVx.out _ hHeld)).mono ?_; rintro e v2 ⟨rfl, hb_v2⟩; have hHeld := hHeld.trans (hb_v2.mono hHeld.size); clear hb_v2
              go_wp2_with fail
              refine hK.out _ _ ?_ (fun hHeld => ?_)
              · (try dsimp only); first | assumption | exact Below.alloc hHeld hHeld.size _ | exact (Below.refl _ _).drew | exact Below.drew (Below.refl _ _) | exact Below_drewN _ _ _ | exact Below.refl _ _
              clear hK K
              try simp only [pu, pa, pz, ps]
              refine tk 15 (v := ?_) (hy := ?_) (h := ?_); rotate_left
              · intro _ _; go_simp <;> with_reducible rfl
              try simp only [pu, pa, pz, ps]
              refine tk 16 (v := ?_) (hy := ?_) (h := ?_); rotate_left
              · intro _ _; go_simp <;> with_reducible rfl
              try simp only [pu, pa, pz, ps]
              refine sk 17 (h := ?_)
              try simp only [pu, pa, pz, ps]
              refine sk 18 (h := ?_)
              try simp only [pu, pa, pz, ps]
              refine sk 19 (h := ?_)
              try simp only [pu, pa, pz, ps]
              refine sk 20 (h := ?_)
              try simp only [pu, pa, pz, ps]
              refine sk 21 (h := ?_)
              try simp only [pu, pa, pz, ps]
              refine sk 22 (h := ?_)
              try simp only [pu, pa, pz, ps]
              refine tk 23 (v := ?_) (hy := ?_) (h := ?_); rotate_left
              · intro _ _; go_simp <;> with_reducible rfl
              try simp only [pu, pa, pz, ps]
              refine tk 24 (v := ?_) (hy := ?_) (h := ?_); rotate_left
              · intro _ _; go_simp <;> with_reducible rfl
              try simp only [pu, pa, pz, ps]
              refine wpAnyH_done (by kernel_rfl) ?_ _
              have HBn := Lib.hid (HBw.out.trans (hHeld.mono HBw.out.size))
              go_wp2_with fail
              go_ret
              exact ⟨by rw [HZ.out]; rfl, HBn.out⟩
            | true =>
              have HZ := Lib.hid (show ZZ = zy by rw [← HZZ.out]; simp [jun])
              go_wp2_with fail
              have qq0 := fun wt (h : Below w2.heap.size w2 wt) => cellB h e00 y1
              have qq1 := fun wt (h : Below w2.heap.size w2 wt) => cellB h e01 y1
              have qq2 := fun wt (h : Below w2.heap.size w2 wt) => cellB h e02 y1
              have qq3 := fun wt (h : Below w2.heap.size w2 wt) => cellB h e03 y1
              have qq4 := fun wt (h : Below w2.heap.size w2 wt) => cellB h e23 y2
              have qq5 := fun wt (h : Below w2.heap.size w2 wt) => cellB h e24 y2
              have qq6 := fun wt (h : Below w2.heap.size w2 wt) => cellB h c0 yb
              have qq7 := fun wt (h : Below w2.heap.size w2 wt) => cellB h c1 yb
              have qq8 := fun wt (h : Below w2.heap.size w2 wt) => cellB h c2 yb
              have qq9 := fun wt (h : Below w2.heap.size w2 wt) => cellB h c3 yb
              have qq10 := fun wt (h : Below w2.heap.size w2 wt) => cellB h c4 yb
              have qq11 := fun wt (h : Below w2.heap.size w2 wt) => cellB h c5 yb
              have qq12 := fun wt (h : Below w2.heap.size w2 wt) => cellB h c6 yb
              have qq13 := fun wt (h : Below w2.heap.size w2 wt) => cellB h c7 yb
              have qq14 := fun wt (h : Below w2.heap.size w2 wt) => cellB h c8 yb
              have qq15 := fun wt (h : Below w2.heap.size w2 wt) => cellB h c9 yb
              refine wp_region_held_drew (S := (fun w' => Below w2.heap.size w2 w')) (by kernel_rfl) ?_ (fun hHeld => ?_)
              · (try dsimp only); first | assumption | exact Below.alloc hHeld hHeld.size _ | exact (Below.refl _ _).drew | exact Below.drew (Below.refl _ _) | exact Below_drewN _ _ _ | exact Below.refl _ _
              refine tk 0 (v := ?_) (hy := ?_) (h := ?_); rotate_left
              · intro _ _; go_simp <;> with_reducible rfl
              try simp only [pu, pa, pz, ps]
              refine tk 1 (v := ?_) (hy := ?_) (h := ?_); rotate_left
              · intro wt hSw; (try dsimp only at hSw); go_simp <;> with_reducible rfl
              try simp only [pu, pa, pz, ps]
              refine tk 2 (v := ?_) (hy := ?_) (h := ?_); rotate_left
              · intro _ _; go_simp <;> with_reducible rfl
              try simp only [pu, pa, pz, ps]
              refine tk 3 (v := ?_) (hy := ?_) (h := ?_); rotate_left
              · intro _ _; go_simp <;> with_reducible rfl
              try simp only [pu, pa, pz, ps]
              refine tk 4 (v := ?_) (hy := ?_) (h := ?_); rotate_left
              · intro _ _; go_simp <;> with_reducible rfl
              try simp only [pu, pa, pz, ps]
              refine tk 5 (v := ?_) (hy := ?_) (h := ?_); rotate_left
              · intro wt hSw; (try dsimp only at hSw); go_simp <;> with_reducible rfl
              try simp only [pu, pa, pz, ps]
              refine tk 6 (v := ?_) (hy := ?_) (h := ?_); rotate_left
              · intro _ _; go_simp <;> with_reducible rfl
              try simp only [pu, pa, pz, ps]
              refine tk 7 (v := ?_) (hy := ?_) (h := ?_); rotate_left
              · intro _ _; go_simp <;> with_reducible rfl
              try simp only [pu, pa, pz, ps]
              refine tk 8 (v := ?_) (hy := ?_) (h := ?_); rotate_left
              · intro _ _; go_simp <;> with_reducible rfl
              try simp only [pu, pa, pz, ps]
              refine tk 9 (v := ?_) (hy := ?_) (h := ?_); rotate_left
              · intro wt hSw; (try dsimp only at hSw); go_simp <;> with_reducible rfl
              try simp only [pu, pa, pz, ps]
              refine tk 10 (v := ?_) (hy := ?_) (h := ?_); rotate_left
              · intro _ _; go_simp <;> with_reducible rfl
              try simp only [pu, pa, pz, ps]
              refine tk 11 (v := ?_) (hy := ?_) (h := ?_); rotate_left
              · intro wt hSw; (try dsimp only at hSw); go_simp <;> with_reducible rfl
              try simp only [pu, pa, pz, ps]
              refine tk 12 (v := ?_) (hy := ?_) (h := ?_); rotate_left
              · intro _ _; go_simp <;> with_reducible rfl
              try simp only [pu, pa, pz, ps]
              refine tk 13 (v := ?_) (hy := ?_) (h := ?_); rotate_left
              · intro wt hSw; (try dsimp only at hSw); go_simp <;> with_reducible rfl
              try simp only [pu, pa, pz, ps]
              refine wpAnyH_ready (rs := [14]) (by kernel_rfl) (by simp) ?_
              refine AllReadyH.cons (o := ⟨_, _, _, _, _, _⟩) rfl (fun K hK => ?_) AllReadyH.nil
              go_simp
              refine (HX.out _ _ (HBw.out.trans (hHeld.mono HBw.out.size)) (HVx.out _ hHeld)).mono ?_; rintro e v2 ⟨rfl, hb_v2⟩; have hHeld := hHeld.trans (hb_v2.mono hHeld.size); clear hb_v2
              go_wp2_with fail
              refine hK.out _ _ ?_ (fun hHeld => ?_)
              · (try dsimp only); first | assumption | exact Below.alloc hHeld hHeld.size _ | exact (Below.refl _ _).drew | exact Below.drew (Below.refl _ _) | exact Below_drewN _ _ _ | exact Below.refl _ _
              clear hK K
              try simp only [pu, pa, pz, ps]
              refine tk 15 (v := ?_) (hy := ?_) (h := ?_); rotate_left
              · intro _ _; go_simp <;> with_reducible rfl
              try simp only [pu, pa, pz, ps]
              refine tk 16 (v := ?_) (hy := ?_) (h := ?_); rotate_left
              · intro _ _; go_simp <;> with_reducible rfl
              try simp only [pu, pa, pz, ps]
              refine tk 17 (v := ?_) (hy := ?_) (h := ?_); rotate_left
              · intro wt hSw; (try dsimp only at hSw); go_simp <;> with_reducible rfl
              try simp only [pu, pa, pz, ps]
              refine tk 18 (v := ?_) (hy := ?_) (h := ?_); rotate_left
              · intro _ _; go_simp <;> with_reducible rfl
              try simp only [pu, pa, pz, ps]
              refine tk 19 (v := ?_) (hy := ?_) (h := ?_); rotate_left
              · intro wt hSw; (try dsimp only at hSw); go_simp <;> with_reducible rfl
              try simp only [pu, pa, pz, ps]
              refine tk 20 (v := ?_) (hy := ?_) (h := ?_); rotate_left
              · intro _ _; go_simp <;> with_reducible rfl
              try simp only [pu, pa, pz, ps]
              refine tk 21 (v := ?_) (hy := ?_) (h := ?_); rotate_left
              · intro wt hSw; (try dsimp only at hSw); go_simp <;> with_reducible rfl
              try simp only [pu, pa, pz, ps]
              refine wpAnyH_ready (rs := [22]) (by kernel_rfl) (by simp) ?_
              refine AllReadyH.cons (o := ⟨_, _, _, _, _, _⟩) rfl (fun K hK => ?_) AllReadyH.nil
              go_simp
              refine (HY.out _ _ (HBw.out.trans (hHeld.mono HBw.out.size)) (HVy.out _ hHeld)).mono ?_; rintro e v3 ⟨rfl, hb_v3⟩; have hHeld := hHeld.trans (hb_v3.mono hHeld.size); clear hb_v3
              go_wp2_with fail
              refine hK.out _ _ ?_ (fun hHeld => ?_)
              · (try dsimp only); first | assumption | exact Below.alloc hHeld hHeld.size _ | exact (Below.refl _ _).drew | exact Below.drew (Below.refl _ _) | exact Below_drewN _ _ _ | exact Below.refl _ _
              clear hK K
              try simp only [pu, pa, pz, ps]
              refine tk 23 (v := ?_) (hy := ?_) (h := ?_); rotate_left
              · intro _ _; go_simp <;> with_reducible rfl
              try simp only [pu, pa, pz, ps]
              refine tk 24 (v := ?_) (hy := ?_) (h := ?_); rotate_left
              · intro _ _; go_simp <;> with_reducible rfl
              try simp only [pu, pa, pz, ps]
              refine wpAnyH_done (by kernel_rfl) ?_ _
              have HBn := Lib.hid (HBw.out.trans (hHeld.mono HBw.out.size))
              go_wp2_with fail
              go_ret
              exact ⟨by rw [HZ.out]; rfl, HBn.out⟩
          have q15 : (m == 15) = false := beq_eq_false_iff_ne.2 c15
          have HZ := Lib.hid (show ZZ = false by rw [← HZZ.out]; simp [jun, c14, c15])
          clear c14 c15
          go_wp2_with fail
          have qq0 := fun wt (h : Below w2.heap.size w2 wt) => cellB h e23 y2
          refine wp_region_held_drew (S := (fun w' => Below w2.heap.size w2 w')) (by kernel_rfl) ?_ (fun hHeld => ?_)
          · (try dsimp only); first | assumption | exact Below.alloc hHeld hHeld.size _ | exact (Below.refl _ _).drew | exact Below.drew (Below.refl _ _) | exact Below_drewN _ _ _ | exact Below.refl _ _
          refine tk 0 (v := ?_) (hy := ?_) (h := ?_); rotate_left
          · intro _ _; go_simp <;> with_reducible rfl
          try simp only [pu, pa, pz, ps]
          refine tk 1 (v := ?_) (hy := ?_) (h := ?_); rotate_left
          · intro wt hSw; (try dsimp only at hSw); go_simp <;> with_reducible rfl
          try simp only [pu, pa, pz, ps]
          refine tk 2 (v := ?_) (hy := ?_) (h := ?_); rotate_left
          · intro _ _; go_simp <;> with_reducible rfl
          try simp only [pu, pa, pz, ps]
          refine tk 3 (v := ?_) (hy := ?_) (h := ?_); rotate_left
          · intro _ _; go_simp <;> with_reducible rfl
          try simp only [pu, pa, pz, ps]
          refine tk 4 (v := ?_) (hy := ?_) (h := ?_); rotate_left
          · intro _ _; go_simp <;> with_reducible rfl
          try simp only [pu, pa, pz, ps]
          refine tk 5 (v := ?_) (hy := ?_) (h := ?_); rotate_left
          · intro wt hSw; (try dsimp only at hSw); go_simp <;> with_reducible rfl
          try simp only [pu, pa, pz, ps]
          refine tk 6 (v := ?_) (hy := ?_) (h := ?_); rotate_left
          · intro _ _; go_simp <;> with_reducible rfl
          try simp only [pu, pa, pz, ps]
          refine tk 7 (v := ?_) (hy := ?_) (h := ?_); rotate_left
          · intro _ _; go_simp <;> with_reducible rfl
          try simp only [pu, pa, pz, ps]
          refine tk 8 (v := ?_) (hy := ?_) (h := ?_); rotate_left
          · intro _ _; go_simp <;> with_reducible rfl
          try simp only [pu, pa, pz, ps]
          refine sk 9 (h := ?_)
          try simp only [pu, pa, pz, ps]
          refine sk 10 (h := ?_)
          try simp only [pu, pa, pz, ps]
          refine sk 11 (h := ?_)
          try simp only [pu, pa, pz, ps]
          refine sk 12 (h := ?_)
          try simp only [pu, pa, pz, ps]
          refine sk 13 (h := ?_)
          try simp only [pu, pa, pz, ps]
          refine sk 14 (h := ?_)
          try simp only [pu, pa, pz, ps]
          refine tk 15 (v := ?_) (hy := ?_) (h := ?_); rotate_left
          · intro _ _; go_simp <;> with_reducible rfl
          try simp only [pu, pa, pz, ps]
          refine tk 16 (v := ?_) (hy := ?_) (h := ?_); rotate_left
          · intro _ _; go_simp <;> with_reducible rfl
          try simp only [pu, pa, pz, ps]
          refine sk 17 (h := ?_)
          try simp only [pu, pa, pz, ps]
          refine sk 18 (h := ?_)
          try simp only [pu, pa, pz, ps]
          refine sk 19 (h := ?_)
          try simp only [pu, pa, pz, ps]
          refine sk 20 (h := ?_)
          try simp only [pu, pa, pz, ps]
          refine sk 21 (h := ?_)
          try simp only [pu, pa, pz, ps]
          refine sk 22 (h := ?_)
          try simp only [pu, pa, pz, ps]
          refine tk 23 (v := ?_) (hy := ?_) (h := ?_); rotate_left
          · intro _ _; go_simp <;> with_reducible rfl
          try simp only [pu, pa, pz, ps]
          refine tk 24 (v := ?_) (hy := ?_) (h := ?_); rotate_left
          · intro _ _; go_simp <;> with_reducible rfl
          try simp only [pu, pa, pz, ps]
          refine wpAnyH_done (by kernel_rfl) ?_ _
          have HBn := Lib.hid (HBw.out.trans (hHeld.mono HBw.out.size))
          go_wp2_with fail
          go_ret
          exact ⟨by rw [HZ.out]; rfl, HBn.out⟩
end Go.Proofs.YtknbomikiakpmaaDoor
/- Layer 43: the answer's Count, by what Truth tells. -/
namespace Go.Proofs.YtknbomikiakpmaaDoor
open Go.RowKit
open NN
set_option linter.unusedSimpArgs false
set_option linter.unusedVariables false
set_option maxRecDepth 100000 in
set_option maxHeartbeats 4000000 in
theorem ref43_Count_of (a b c d : Value) (s : Sc) (e : Ex) (w : World) (v : Value) (he : SmallE 300 e) (hv : ExV w v e)
    (hTr : ∀ W, Below w.heap.size w W → Calls Tryd.prog 42 #[.agg #[a, b, c, d], v] W fun r w' => r = .returned (.bool (truE s e)) ∧ Below W.heap.size W w') :
    Calls Tryd.prog 15 #[.agg #[a, b, c, d], v] w fun r w' => r = .returned (.int .i64 (cntR s e)) ∧ Below w.heap.size w w' := by
  have HTr := Lib.hid hTr
  have HM := Lib.hid (fun W (hb : Below w.heap.size w W) => ref43_Many e W v he (hv.below hb))
  have HD := Lib.hid (show cntR s e = if truE s e = false ∨ 24 < manyE e then 25 else manyE e from rfl)
  generalize cntR s e = Z at *
  generalize truE s e = tr at *
  generalize manyE e = mn at *
  obtain ⟨op, t, n, m, l⟩ := e
  obtain ⟨sl, rfl, hr, hrow⟩ := hv
  simp only at hrow HTr HM ⊢
  obtain ⟨sa, sc, rfl⟩ := row_get hrow
  generalize l.length = N at *
  obtain ⟨W0, hW0⟩ : ∃ W0, W0 = (w.alloc (.cells #[a, b, c, d] 43)).alloc (.cells #[.int .i64 op, .int .i64 t, .int .i64 n, .int .i64 m, .slice sa N sc] 37) := ⟨_, rfl⟩
  obtain ⟨k1, k2, k3, k4⟩ := boxed2 w [a, b, c, d] [.int .i64 op, .int .i64 t, .int .i64 n, .int .i64 m, .slice sa N sc] 43 37 (W' := W0) (by rw [hW0]; exact Below.refl _ _)
  have HW0 := Lib.hid hW0
  have K2 := Lib.hid k2
  clear hTr hrow hr he hW0 k1 k2
  cases tr with
  | false =>
    have HZ := Lib.hid (show Z = 25 from HD.out.trans (if_pos (Or.inl rfl)))
    clear HD HM
    go_enter Tryd.func15, Tryd.ntmps15
    go_wp2_with fail
    refine (HTr.out _ (by (repeat' (first | (with_reducible exact Below.refl _ _) | (with_reducible assumption) | (with_reducible refine below_drewN ?_ _) | (with_reducible refine Below.alloc ?_ ?_ _) | (with_reducible refine Below.drew ?_) | (with_reducible refine Below.setCell ?_ ?_ _) | go_size)))).mono ?_; rintro e w1 ⟨rfl, hb1⟩
    rw [← HW0.out] at hb1
    have HB1 := Lib.hid (k4.trans (hb1.mono k4.size))
    clear hb1
    go_wp2_with fail
    go_ret
    exact ⟨by rw [HZ.out]; rfl, HB1.out⟩
  | true =>
    by_cases cb : 24 < mn
    · have HZ := Lib.hid (show Z = 25 from HD.out.trans (if_pos (Or.inr cb)))
      have qb : (24 < mn) = True := eq_true cb
      clear HD cb
      go_enter Tryd.func15, Tryd.ntmps15
      go_wp2_with fail
      refine (HTr.out _ (by (repeat' (first | (with_reducible exact Below.refl _ _) | (with_reducible assumption) | (with_reducible refine below_drewN ?_ _) | (with_reducible refine Below.alloc ?_ ?_ _) | (with_reducible refine Below.drew ?_) | (with_reducible refine Below.setCell ?_ ?_ _) | go_size)))).mono ?_; rintro e w1 ⟨rfl, hb1⟩
      rw [← HW0.out] at hb1
      have HB1 := Lib.hid (k4.trans (hb1.mono k4.size))
      have e20 := (K2.out.keep k3 hb1) 0 _ rfl
      have e21 := (K2.out.keep k3 hb1) 1 _ rfl
      have e22 := (K2.out.keep k3 hb1) 2 _ rfl
      have e23 := (K2.out.keep k3 hb1) 3 _ rfl
      have e24 := (K2.out.keep k3 hb1) 4 _ rfl
      clear hb1
      go_wp2_with fail
      refine (HM.out _ HB1.out).mono ?_; rintro e w2 ⟨rfl, hb2⟩
      have HB2 := Lib.hid (HB1.out.trans (hb2.mono HB1.out.size))
      clear hb2
      go_wp2_with fail
      go_ret
      exact ⟨by rw [HZ.out]; rfl, HB2.out⟩
    · have HZ := Lib.hid (show Z = mn from HD.out.trans (if_neg (by rintro (h | h); cases h; exact cb h)))
      have qb : (24 < mn) = False := eq_false cb
      clear HD cb
      go_enter Tryd.func15, Tryd.ntmps15
      go_wp2_with fail
      refine (HTr.out _ (by (repeat' (first | (with_reducible exact Below.refl _ _) | (with_reducible assumption) | (with_reducible refine below_drewN ?_ _) | (with_reducible refine Below.alloc ?_ ?_ _) | (with_reducible refine Below.drew ?_) | (with_reducible refine Below.setCell ?_ ?_ _) | go_size)))).mono ?_; rintro e w1 ⟨rfl, hb1⟩
      rw [← HW0.out] at hb1
      have HB1 := Lib.hid (k4.trans (hb1.mono k4.size))
      have Hb1 := Lib.hid hb1
      have e20 := (K2.out.keep k3 hb1) 0 _ rfl
      have e21 := (K2.out.keep k3 hb1) 1 _ rfl
      have e22 := (K2.out.keep k3 hb1) 2 _ rfl
      have e23 := (K2.out.keep k3 hb1) 3 _ rfl
      have e24 := (K2.out.keep k3 hb1) 4 _ rfl
      clear hb1
      go_wp2_with fail
      refine (HM.out _ HB1.out).mono ?_; rintro e w2 ⟨rfl, hb2⟩
      have HB2 := Lib.hid (HB1.out.trans (hb2.mono HB1.out.size))
      have hb3 := Hb1.out.trans (hb2.mono Hb1.out.size)
      clear e20 e21 e22 e23 e24 hb2
      have e20 := (K2.out.keep k3 hb3) 0 _ rfl
      have e21 := (K2.out.keep k3 hb3) 1 _ rfl
      have e22 := (K2.out.keep k3 hb3) 2 _ rfl
      have e23 := (K2.out.keep k3 hb3) 3 _ rfl
      have e24 := (K2.out.keep k3 hb3) 4 _ rfl
      clear hb3
      go_wp2_with fail
      refine (HM.out _ HB2.out).mono ?_; rintro e w3 ⟨rfl, hb4⟩
      have HB4 := Lib.hid (HB2.out.trans (hb4.mono HB2.out.size))
      clear hb4
      go_wp2_with fail
      go_ret
      exact ⟨by rw [HZ.out]; rfl, HB4.out⟩
end Go.Proofs.YtknbomikiakpmaaDoor

/- Layer 43: the walk of NnfTells. -/
namespace Go.Proofs.YtknbomikiakpmaaDoor
open Go.RowKit
open NN
set_option linter.unusedSimpArgs false
set_option linter.unusedVariables false
set_option maxRecDepth 100000 in
set_option maxHeartbeats 8000000 in
theorem nnfTells_walk (pa pb pc pd : Value) (p : Pr) (u : Int) (f g : Value) (s : St) (y : Value) (Y : List Int) (v : Value) (e : Ex) (w : World) (hp : PrAt w pa pb pc pd p) (hs : StAt w f g s) (hy : RowR 1 intR w y Y) (hv : ExV w v e) (hg : AGoes w) (hT : BTab w) :
    Calls Tryd.prog 3 #[.agg #[pa, pb, pc, pd, .int .i64 u, f, g, .int .i64 s.now, .int .i64 s.fault, y], v] w fun r w' => r = .returned (.bool true) ∧ Below w.heap.size w w' := by
  have HA := Lib.hid (fun W (h : Below w.heap.size w W) => law43_awake W (hg.below h) (hT.below h))
  have HFt := Lib.hid (fun W (h : Below w.heap.size w W) => law27_Fits pa pb pc pd p u f g s y Y W (hp.below h) (hs.below h) (hy.below intR_stable h))
  have HF2 := Lib.hid (fun W (h : Below w.heap.size w W) => ref26_Few e 100 (by omega) W v (hv.below h))
  have HSm := Lib.hid (fun (h : 0 ≤ roomE e (100 : Nat) 40) => fewE_small h)
  have HSc := Lib.hid (fun (hf : fewP p = true) W (hb : Below w.heap.size w W) => ref17_Scope pa pb pc pd p u W (hp.below hb) hf)
  have HG := Lib.hid hg
  have HT := Lib.hid hT
  have HX := Lib.hid hv
  obtain ⟨sl, rfl, _, hra⟩ := id hv
  obtain ⟨sa, sc, rfl⟩ := row_get hra
  clear hv hg hT hra hp hs hy
  obtain ⟨N, hN⟩ : ∃ N, e.l.length = N := ⟨_, rfl⟩
  rw [hN] at HX HF2 ⊢
  clear hN
  generalize e.op = p1 at *
  generalize e.t = p2 at *
  generalize e.n = p3 at *
  generalize e.m = p4 at *
  have mixed : Tryd.prog.follows .mixedOrders = true := by kernel_rfl
  obtain ⟨W0, hW0⟩ : ∃ W0, W0 = (w.alloc (.cells #[pa, pb, pc, pd, .int .i64 u, f, g, .int .i64 s.now, .int .i64 s.fault, y] 34)).alloc (.cells #[.int .i64 p1, .int .i64 p2, .int .i64 p3, .int .i64 p4, .slice sa N sc] 37) := ⟨_, rfl⟩
  have C0 := Lib.hid (show W0.heap[w.heap.size]? = some (.cells #[pa, pb, pc, pd, .int .i64 u, f, g, .int .i64 s.now, .int .i64 s.fault, y] 34) by rw [hW0]; exact (get_past (by simp)).trans (get_last rfl))
  have E0 := Lib.hid (show W0.heap[w.heap.size + 1]? = some (.cells #[.int .i64 p1, .int .i64 p2, .int .i64 p3, .int .i64 p4, .slice sa N sc] 37) by rw [hW0]; exact get_last (by simp))
  have B0 := Lib.hid (show Below w.heap.size w W0 by rw [hW0]; exact by (repeat' (first | (with_reducible exact Below.refl _ _) | (with_reducible assumption) | (with_reducible refine below_drewN ?_ _) | (with_reducible refine Below.alloc ?_ ?_ _) | (with_reducible refine Below.drew ?_) | (with_reducible refine Below.setCell ?_ ?_ _) | go_size)))
  have HW0 := Lib.hid hW0
  clear hW0
  go_enter Tryd.func3, Tryd.ntmps3
  go_wp2_with fail
  rw [← HW0.out]
  refine (HFt.out _ B0.out).mono ?_; rintro r w1 ⟨z, rfl, hz, hb⟩
  have C1 := Lib.hid (obj_below C0.out hb (heap_lt C0.out))
  have E1 := Lib.hid (obj_below E0.out hb (heap_lt E0.out))
  have B1 := Lib.hid (B0.out.trans (hb.mono B0.out.size))
  clear hb
  cases z
  case false =>
    go_wp2_with fail
    refine (HA.out _ B1.out).mono ?_; rintro r w2 ⟨rfl, hb⟩
    have BB := Lib.hid (B1.out.trans (hb.mono B1.out.size))
    clear hb
    go_wp2_with fail
    go_ret
    exact ⟨rfl, BB.out⟩
  have HFP := Lib.hid (hz rfl)
  clear hz
  have HScp := Lib.hid (HSc.out HFP.out)
  clear HSc HFP
  obtain ⟨e0, e1, e2, e3, e4⟩ := boxed_ex5 E1.out
  have ye := heap_lt E1.out
  go_wp2_with fail
  refine (HF2.out _ B1.out).mono ?_; rintro r w2 ⟨rfl, hb⟩
  have C2 := Lib.hid (obj_below C1.out hb (heap_lt C1.out))
  have E2 := Lib.hid (obj_below E1.out hb (heap_lt E1.out))
  have B2 := Lib.hid (B1.out.trans (hb.mono B1.out.size))
  clear hb
  cases hfb : decide (0 ≤ roomE e (100 : Nat) 40)
  case false =>
    clear hfb e0 e1 e2 e3 e4 ye
    go_wp2_with fail
    refine (HA.out _ B2.out).mono ?_; rintro r w3 ⟨rfl, hb⟩
    have BB := Lib.hid (B2.out.trans (hb.mono B2.out.size))
    clear hb
    go_wp2_with fail
    go_ret
    exact ⟨rfl, BB.out⟩
  have hsm := HSm.out (of_decide_eq_true hfb)
  have hsm : SmallE 300 e := by unfold SmallE at hsm ⊢; omega
  have HSM := Lib.hid hsm
  clear hfb hsm HSm HF2 e0 e1 e2 e3 e4 ye
  have k0 := obj_cell C2.out (i := 0) rfl
  have k1 := obj_cell C2.out (i := 1) rfl
  have k2 := obj_cell C2.out (i := 2) rfl
  have k3 := obj_cell C2.out (i := 3) rfl
  have k4 := obj_cell C2.out (i := 4) rfl
  have yk := heap_lt C2.out
  go_wp2_with fail
  refine (HScp.out _ B2.out).mono ?_; rintro r w3 ⟨a, b, c, d, rfl, hsc, hb⟩
  have C3 := Lib.hid (obj_below C2.out hb (heap_lt C2.out))
  have E3 := Lib.hid (obj_below E2.out hb (heap_lt E2.out))
  have B3 := Lib.hid (B2.out.trans (hb.mono B2.out.size))
  clear hb
  clear k0 k1 k2 k3 k4 yk
  obtain ⟨v1, n1, k1, rfl⟩ : ∃ v1 n1 k1, a = .slice v1 n1 k1 := by obtain ⟨x, y, z⟩ := row_get hsc.1; exact ⟨_, _, _, z⟩
  obtain ⟨v2, n2, k2, rfl⟩ : ∃ v1 n1 k1, b = .slice v1 n1 k1 := by obtain ⟨x, y, z⟩ := row_get hsc.2.1; exact ⟨_, _, _, z⟩
  obtain ⟨v3, n3, k3, rfl⟩ : ∃ v1 n1 k1, c = .slice v1 n1 k1 := by obtain ⟨x, y, z⟩ := row_get hsc.2.2.1; exact ⟨_, _, _, z⟩
  obtain ⟨v4, n4, k4, rfl⟩ : ∃ v1 n1 k1, d = .slice v1 n1 k1 := by obtain ⟨x, y, z⟩ := row_get hsc.2.2.2; exact ⟨_, _, _, z⟩
  have HSC := Lib.hid (scAt_of hsc)
  have hslc : ∃ p q k, Value.slice v3 n3 k3 = .slice p q k := ⟨_, _, _, rfl⟩
  clear hsc
  generalize scP p u = S at *
  go_upto_region 4 with fail
  have S4 := Lib.hid (show (w3.alloc (.cells #[.slice v1 n1 k1, .slice v2 n2 k2, .slice v3 n3 k3, .slice v4 n4 k4] 43)).heap[w3.heap.size]? = some (.cells #[.slice v1 n1 k1, .slice v2 n2 k2, .slice v3 n3 k3, .slice v4 n4 k4] 43) from get_last rfl)
  have hb : Below w3.heap.size w3 (w3.alloc (.cells #[.slice v1 n1 k1, .slice v2 n2 k2, .slice v3 n3 k3, .slice v4 n4 k4] 43)) := by (repeat' (first | (with_reducible exact Below.refl _ _) | (with_reducible assumption) | (with_reducible refine below_drewN ?_ _) | (with_reducible refine Below.alloc ?_ ?_ _) | (with_reducible refine Below.drew ?_) | (with_reducible refine Below.setCell ?_ ?_ _) | go_size))
  generalize w3.alloc (.cells #[.slice v1 n1 k1, .slice v2 n2 k2, .slice v3 n3 k3, .slice v4 n4 k4] 43) = w4 at *
  have HSC4 := Lib.hid (HSC.out.below hb)
  have E4 := Lib.hid (obj_below E3.out hb (heap_lt E3.out))
  have B4 := Lib.hid (B3.out.trans (hb.mono B3.out.size))
  clear hb
  generalize w3.heap.size = sb at *
  obtain ⟨s0, s1, s2, s3⟩ := boxed_four S4.out
  have zS := heap_lt S4.out
  obtain ⟨b0, b1, b2, b3, b4⟩ := boxed_ex5 E4.out
  have zE := heap_lt E4.out
  have HBe := Lib.hid (fun W (h : Below w4.heap.size w4 W) => B4.out.trans (h.mono B4.out.size))
  have HXe := Lib.hid (fun W (h : Below w4.heap.size w4 W) => HX.out.below (HBe.out W h))
  have HTr := Lib.hid (fun (x : Ex) (W : World) (q : Value) (h1 : SmallE 300 x) (h2 : ScAt W (.slice v1 n1 k1) (.slice v2 n2 k2) (.slice v4 n4 k4) S) (h3 : ExV W q x) => ref43_Truth (.slice v1 n1 k1) (.slice v2 n2 k2) (.slice v3 n3 k3) (.slice v4 n4 k4) S hslc x W q h1 h2 h3)
  have H1 := Lib.hid (fun W (h : Below w4.heap.size w4 W) => nnf_Leaf (.slice v1 n1 k1) (.slice v2 n2 k2) (.slice v3 n3 k3) (.slice v4 n4 k4) S e HSM.out W _ (HSC4.out.below h) (HXe.out W h) (HG.out.below (HBe.out W h)) (HT.out.below (HBe.out W h)))
  have H2 := Lib.hid (fun W (h : Below w4.heap.size w4 W) => ref43_Leaf (.slice v1 n1 k1) (.slice v2 n2 k2) (.slice v3 n3 k3) (.slice v4 n4 k4) S e W _ (HSC4.out.below h) hslc (HXe.out W h))
  have H3 := Lib.hid (fun W (h : Below w4.heap.size w4 W) => nnf_Is (.slice v1 n1 k1) (.slice v2 n2 k2) (.slice v3 n3 k3) (.slice v4 n4 k4) S e W _ HSM.out (HSC4.out.below h) (HXe.out W h) (HG.out.below (HBe.out W h)) (HT.out.below (HBe.out W h)))
  have H4 := Lib.hid (fun W (h : Below w4.heap.size w4 W) => ref43_Is_of (.slice v1 n1 k1) (.slice v2 n2 k2) (.slice v3 n3 k3) (.slice v4 n4 k4) S hslc HTr.out e W _ HSM.out (HSC4.out.below h) (HXe.out W h))
  have H5 := Lib.hid (fun W (h : Below w4.heap.size w4 W) => nnf_Count (.slice v1 n1 k1) (.slice v2 n2 k2) (.slice v3 n3 k3) (.slice v4 n4 k4) S e W _ HSM.out (HSC4.out.below h) (HXe.out W h) (HG.out.below (HBe.out W h)) (HT.out.below (HBe.out W h)))
  have H6 := Lib.hid (fun W (h : Below w4.heap.size w4 W) => ref43_Count_of (.slice v1 n1 k1) (.slice v2 n2 k2) (.slice v3 n3 k3) (.slice v4 n4 k4) S e W _ HSM.out (HXe.out W h) (fun W' h' => HTr.out e W' _ HSM.out (HSC4.out.below (h.trans (h'.mono h.size))) ((HXe.out W h).below h')))
  have HNo := Lib.hid (fun (hc : 24 < cntE S e) W (h : Below w4.heap.size w4 W) => nnf_Norm_no (.slice v1 n1 k1) (.slice v2 n2 k2) (.slice v3 n3 k3) (.slice v4 n4 k4) S e W _ HSM.out (HSC4.out.below h) (HXe.out W h) (HG.out.below (HBe.out W h)) (HT.out.below (HBe.out W h)) hc)
  have HYes := Lib.hid (fun (hc : ¬ 24 < cntE S e) W (h : Below w4.heap.size w4 W) => nnf_Norm_yes (.slice v1 n1 k1) (.slice v2 n2 k2) (.slice v3 n3 k3) (.slice v4 n4 k4) S e W _ HSM.out (HSC4.out.below h) (HXe.out W h) (HG.out.below (HBe.out W h)) (HT.out.below (HBe.out W h)) hc)
  have HAs := Lib.hid (fun (ht : truE S e = true) W (h : Below w4.heap.size w4 W) => (ref43_forms S e ht W _ (HXe.out W h)).1)
  have HFm := Lib.hid (fun (ht : truE S e = true) => (form_same S e ht).1)
  have HCt := Lib.hid (fun (hc : ¬ 24 < cntE S e) => (show truE S e = true by
    cases ht : truE S e with
    | true => rfl
    | false => have := (cnt_told S e).2.1 ht; omega))
  have H7 := Lib.hid (fun W (h : Below w4.heap.size w4 W) => HA.out W (HBe.out W h))
  rw [← leaf_same] at H2
  rw [← is_same] at H4
  rw [← cnt_same] at H6
  generalize leafB S e = Z1 at *
  generalize isE S e = Z2 at *
  generalize cntE S e = Z3 at *
  generalize formE e false = F1 at *
  generalize (asE e).1 = F2 at *
  generalize truE S e = TT at *
  have t1 : (Z1 != Z1) = false := by simp
  have t2 : (Z2 != Z2) = false := by simp
  have t3 : (Z3 != Z3) = false := by simp
  clear HA HTr HG HT HSC HSC4 HXe HX HSM C3 C2 C1 C0 E0 E1 E2 E3 B0 B1 B2 B3 HW0 HFt HScp hslc
  have qq0 := fun wt (h : Below w4.heap.size w4 wt) => cellB h s0 zS
  have qq1 := fun wt (h : Below w4.heap.size w4 wt) => cellB h s1 zS
  have qq2 := fun wt (h : Below w4.heap.size w4 wt) => cellB h s2 zS
  have qq3 := fun wt (h : Below w4.heap.size w4 wt) => cellB h s3 zS
  have qq4 := fun wt (h : Below w4.heap.size w4 wt) => cellB h b0 zE
  have qq5 := fun wt (h : Below w4.heap.size w4 wt) => cellB h b1 zE
  have qq6 := fun wt (h : Below w4.heap.size w4 wt) => cellB h b2 zE
  have qq7 := fun wt (h : Below w4.heap.size w4 wt) => cellB h b3 zE
  have qq8 := fun wt (h : Below w4.heap.size w4 wt) => cellB h b4 zE
  refine wp_region_held_drew (S := (fun w' => Below w4.heap.size w4 w')) (by kernel_rfl) ?_ (fun hHeld => ?_)
  · (try dsimp only); first | assumption | exact Below.alloc hHeld hHeld.size _ | exact (Below.refl _ _).drew | exact Below.drew (Below.refl _ _) | exact Below_drewN _ _ _ | exact Below.refl _ _
  refine tk 0 (v := ?_) (hy := ?_) (h := ?_); rotate_left
  · intro wt hSw; (try dsimp only at hSw); go_simp <;> with_reducible rfl
  try simp only [pu, pa, pz, ps]
  refine tk 1 (v := ?_) (hy := ?_) (h := ?_); rotate_left
  · intro wt hSw; (try dsimp only at hSw); go_simp <;> with_reducible rfl
  try simp only [pu, pa, pz, ps]
  refine tk 3 (v := ?_) (hy := ?_) (h := ?_); rotate_left
  · intro wt hSw; (try dsimp only at hSw); go_simp <;> with_reducible rfl
  try simp only [pu, pa, pz, ps]
  refine tk 4 (v := ?_) (hy := ?_) (h := ?_); rotate_left
  · intro wt hSw; (try dsimp only at hSw); go_simp <;> with_reducible rfl
  try simp only [pu, pa, pz, ps]
  refine wpAnyH_ready (rs := [2]) (by kernel_rfl) (by simp) ?_
  refine AllReadyH.cons (o := ⟨_, _, _, _, _, _⟩) rfl (fun K hK => ?_) AllReadyH.nil
  go_simp
  refine (H1.out _ hHeld).mono ?_; rintro r w2 ⟨rfl, hb⟩; have hHeld := hHeld.trans (hb.mono hHeld.size); clear hb
  go_wp2_with fail
  refine hK.out _ _ ?_ (fun hHeld => ?_)
  · (try dsimp only); first | assumption | exact Below.alloc hHeld hHeld.size _ | exact (Below.refl _ _).drew | exact Below.drew (Below.refl _ _) | exact Below_drewN _ _ _ | exact Below.refl _ _
  clear hK K
  try simp only [pu, pa, pz, ps]
  refine wpAnyH_ready (rs := [5]) (by kernel_rfl) (by simp) ?_
  refine AllReadyH.cons (o := ⟨_, _, _, _, _, _⟩) rfl (fun K hK => ?_) AllReadyH.nil
  go_simp
  refine (H2.out _ hHeld).mono ?_; rintro r w2 ⟨rfl, hb⟩; have hHeld := hHeld.trans (hb.mono hHeld.size); clear hb
  go_wp2_with fail
  refine hK.out _ _ ?_ (fun hHeld => ?_)
  · (try dsimp only); first | assumption | exact Below.alloc hHeld hHeld.size _ | exact (Below.refl _ _).drew | exact Below.drew (Below.refl _ _) | exact Below_drewN _ _ _ | exact Below.refl _ _
  clear hK K
  try simp only [pu, pa, pz, ps]
  refine tk 6 (v := ?_) (hy := ?_) (h := ?_); rotate_left
  · intro _ _; go_simp <;> with_reducible rfl
  try simp only [pu, pa, pz, ps]
  refine tk 7 (v := ?_) (hy := ?_) (h := ?_); rotate_left
  · intro _ _; go_simp <;> with_reducible rfl
  try simp only [pu, pa, pz, ps]
  refine tk 8 (v := ?_) (hy := ?_) (h := ?_); rotate_left
  · intro wt hSw; (try dsimp only at hSw); go_simp <;> with_reducible rfl
  try simp only [pu, pa, pz, ps]
  refine tk 9 (v := ?_) (hy := ?_) (h := ?_); rotate_left
  · intro wt hSw; (try dsimp only at hSw); go_simp <;> with_reducible rfl
  try simp only [pu, pa, pz, ps]
  refine tk 11 (v := ?_) (hy := ?_) (h := ?_); rotate_left
  · intro wt hSw; (try dsimp only at hSw); go_simp <;> with_reducible rfl
  try simp only [pu, pa, pz, ps]
  refine tk 12 (v := ?_) (hy := ?_) (h := ?_); rotate_left
  · intro wt hSw; (try dsimp only at hSw); go_simp <;> with_reducible rfl
  try simp only [pu, pa, pz, ps]
  refine wpAnyH_ready (rs := [10]) (by kernel_rfl) (by simp) ?_
  refine AllReadyH.cons (o := ⟨_, _, _, _, _, _⟩) rfl (fun K hK => ?_) AllReadyH.nil
  go_simp
  refine (H3.out _ hHeld).mono ?_; rintro r w2 ⟨rfl, hb⟩; have hHeld := hHeld.trans (hb.mono hHeld.size); clear hb
  go_wp2_with fail
  refine hK.out _ _ ?_ (fun hHeld => ?_)
  · (try dsimp only); first | assumption | exact Below.alloc hHeld hHeld.size _ | exact (Below.refl _ _).drew | exact Below.drew (Below.refl _ _) | exact Below_drewN _ _ _ | exact Below.refl _ _
  clear hK K
  try simp only [pu, pa, pz, ps]
  refine wpAnyH_ready (rs := [13]) (by kernel_rfl) (by simp) ?_
  refine AllReadyH.cons (o := ⟨_, _, _, _, _, _⟩) rfl (fun K hK => ?_) AllReadyH.nil
  go_simp
  refine (H4.out _ hHeld).mono ?_; rintro r w2 ⟨rfl, hb⟩; have hHeld := hHeld.trans (hb.mono hHeld.size); clear hb
  go_wp2_with fail
  refine hK.out _ _ ?_ (fun hHeld => ?_)
  · (try dsimp only); first | assumption | exact Below.alloc hHeld hHeld.size _ | exact (Below.refl _ _).drew | exact Below.drew (Below.refl _ _) | exact Below_drewN _ _ _ | exact Below.refl _ _
  clear hK K
  try simp only [pu, pa, pz, ps]
  refine tk 14 (v := ?_) (hy := ?_) (h := ?_); rotate_left
  · intro _ _; go_simp <;> with_reducible rfl
  try simp only [pu, pa, pz, ps]
  refine tk 15 (v := ?_) (hy := ?_) (h := ?_); rotate_left
  · intro _ _; go_simp <;> with_reducible rfl
  try simp only [pu, pa, pz, ps]
  refine tk 16 (v := ?_) (hy := ?_) (h := ?_); rotate_left
  · intro _ _; go_simp <;> with_reducible rfl
  try simp only [pu, pa, pz, ps]
  refine tk 17 (v := ?_) (hy := ?_) (h := ?_); rotate_left
  · intro wt hSw; (try dsimp only at hSw); go_simp <;> with_reducible rfl
  try simp only [pu, pa, pz, ps]
  refine tk 18 (v := ?_) (hy := ?_) (h := ?_); rotate_left
  · intro wt hSw; (try dsimp only at hSw); go_simp <;> with_reducible rfl
  try simp only [pu, pa, pz, ps]
  refine tk 20 (v := ?_) (hy := ?_) (h := ?_); rotate_left
  · intro wt hSw; (try dsimp only at hSw); go_simp <;> with_reducible rfl
  try simp only [pu, pa, pz, ps]
  refine tk 21 (v := ?_) (hy := ?_) (h := ?_); rotate_left
  · intro wt hSw; (try dsimp only at hSw); go_simp <;> with_reducible rfl
  try simp only [pu, pa, pz, ps]
  refine wpAnyH_ready (rs := [19]) (by kernel_rfl) (by simp) ?_
  refine AllReadyH.cons (o := ⟨_, _, _, _, _, _⟩) rfl (fun K hK => ?_) AllReadyH.nil
  go_simp
  refine (H5.out _ hHeld).mono ?_; rintro r w2 ⟨rfl, hb⟩; have hHeld := hHeld.trans (hb.mono hHeld.size); clear hb
  go_wp2_with fail
  refine hK.out _ _ ?_ (fun hHeld => ?_)
  · (try dsimp only); first | assumption | exact Below.alloc hHeld hHeld.size _ | exact (Below.refl _ _).drew | exact Below.drew (Below.refl _ _) | exact Below_drewN _ _ _ | exact Below.refl _ _
  clear hK K
  try simp only [pu, pa, pz, ps]
  refine wpAnyH_ready (rs := [22]) (by kernel_rfl) (by simp) ?_
  refine AllReadyH.cons (o := ⟨_, _, _, _, _, _⟩) rfl (fun K hK => ?_) AllReadyH.nil
  go_simp
  refine (H6.out _ hHeld).mono ?_; rintro r w2 ⟨rfl, hb⟩; have hHeld := hHeld.trans (hb.mono hHeld.size); clear hb
  go_wp2_with fail
  refine hK.out _ _ ?_ (fun hHeld => ?_)
  · (try dsimp only); first | assumption | exact Below.alloc hHeld hHeld.size _ | exact (Below.refl _ _).drew | exact Below.drew (Below.refl _ _) | exact Below_drewN _ _ _ | exact Below.refl _ _
  clear hK K
  try simp only [pu, pa, pz, ps]
  refine tk 23 (v := ?_) (hy := ?_) (h := ?_); rotate_left
  · intro _ _; go_simp <;> with_reducible rfl
  try simp only [pu, pa, pz, ps]
  refine tk 24 (v := ?_) (hy := ?_) (h := ?_); rotate_left
  · intro _ _; go_simp <;> with_reducible rfl
  try simp only [pu, pa, pz, ps]
  refine wpAnyH_done (by kernel_rfl) ?_ _
  have HH := Lib.hid hHeld
  clear hHeld s0 s1 s2 s3 b0 b1 b2 b3 b4 zS zE H1 H2 H3 H4 H5 t1 t2 t3
  have SS := Lib.hid (obj_below S4.out HH.out (heap_lt S4.out))
  have EE := Lib.hid (obj_below E4.out HH.out (heap_lt E4.out))
  have hse : F1 = F2 → sameE F1 F2 = true := sameE_yes
  have HSe := Lib.hid hse
  have H00 := Lib.hid (fun W (q q' : Value) (h1 : ExV W q ex0) (h2 : ExV W q' ex0) => (show Calls Tryd.prog 17 #[q, q'] W fun r w' => r = .returned (.bool true) ∧ Below W.heap.size W w' from sameE_yes (rfl : ex0 = ex0) ▸ ref26_Same ex0 ex0 W q q' h1 h2))
  have HF := Lib.hid (fun W (q q' : Value) (h1 : ExV W q F1) (h2 : ExV W q' F2) => ref26_Same F1 F2 W q q' h1 h2)
  clear hse S4 E4
  obtain ⟨s0, s1, s2, s3⟩ := boxed_four SS.out
  have zS := heap_lt SS.out
  obtain ⟨b0, b1, b2, b3, b4⟩ := boxed_ex5 EE.out
  have zE := heap_lt EE.out
  have i64 : ∀ z : Int, 0 ≤ z ∧ z ≤ 100 → I64 z := fun z h => by unfold I64; omega
  have H0V := Lib.hid (fun W : World => (show ExV W (.agg #[.int .i64 0, .int .i64 0, .int .i64 0, .int .i64 0, .slice none 0 0]) ex0 from exV_lit ⟨i64 _ (by omega), i64 _ (by omega), i64 _ (by omega), i64 _ (by omega)⟩ row_none))
  clear i64
  go_wp2_with fail
  by_cases hc : 24 < Z3
  case pos =>
    have q24 : (24 < Z3) = True := eq_true hc
    refine (HNo.out hc _ HH.out).mono ?_; rintro r w5 ⟨z, rfl, hz, hb⟩
    clear hc HNo HYes HAs HFm HCt HF HSe
    have SS5 := Lib.hid (obj_below SS.out hb (heap_lt SS.out))
    have EE5 := Lib.hid (obj_below EE.out hb (heap_lt EE.out))
    have HH5 := Lib.hid (HH.out.trans (hb.mono HH.out.size))
    obtain ⟨na, nk, nc, rfl⟩ := ex_form hz
    have HZ := Lib.hid hz
    clear hz hb s0 s1 s2 s3 b0 b1 b2 b3 b4 zS zE SS EE HH
    generalize (ex0).op = n1' at *
    generalize (ex0).t = n2' at *
    generalize (ex0).n = n3' at *
    generalize (ex0).m = n4' at *
    go_upto_region 7 with fail
    have hb : Below w5.heap.size w5 (w5.alloc (.cells #[.int .i64 n1', .int .i64 n2', .int .i64 n3', .int .i64 n4', .slice na nk nc] 37)) := by (repeat' (first | (with_reducible exact Below.refl _ _) | (with_reducible assumption) | (with_reducible refine below_drewN ?_ _) | (with_reducible refine Below.alloc ?_ ?_ _) | (with_reducible refine Below.drew ?_) | (with_reducible refine Below.setCell ?_ ?_ _) | go_size))
    have oN : (w5.alloc (.cells #[.int .i64 n1', .int .i64 n2', .int .i64 n3', .int .i64 n4', .slice na nk nc] 37)).heap[w5.heap.size]? = some (.cells #[.int .i64 n1', .int .i64 n2', .int .i64 n3', .int .i64 n4', .slice na nk nc] 37) := get_last rfl
    generalize w5.alloc (.cells #[.int .i64 n1', .int .i64 n2', .int .i64 n3', .int .i64 n4', .slice na nk nc] 37) = w6 at *
    have NN6 := Lib.hid oN
    have SS6 := Lib.hid (obj_below SS5.out hb (heap_lt SS5.out))
    have EE6 := Lib.hid (obj_below EE5.out hb (heap_lt EE5.out))
    have HH6 := Lib.hid (HH5.out.trans (hb.mono HH5.out.size))
    have HZ6 := Lib.hid (HZ.out.below hb)
    generalize w5.heap.size = nb at *
    clear hb oN SS5 EE5 HH5 HZ
    obtain ⟨s0, s1, s2, s3⟩ := boxed_four SS6.out
    have zS := heap_lt SS6.out
    obtain ⟨b0, b1, b2, b3, b4⟩ := boxed_ex5 EE6.out
    have zE := heap_lt EE6.out
    go_wp2_with fail
    refine (H6.out _ HH6.out).mono ?_; rintro r w7 ⟨rfl, hb⟩
    have NN7 := Lib.hid (obj_below NN6.out hb (heap_lt NN6.out))
    have EE7 := Lib.hid (obj_below EE6.out hb (heap_lt EE6.out))
    have HH7 := Lib.hid (HH6.out.trans (hb.mono HH6.out.size))
    have HZ7 := Lib.hid (HZ6.out.below hb)
    clear hb s0 s1 s2 s3 b0 b1 b2 b3 b4 zS zE SS6 EE6 NN6 HH6 HZ6
    obtain ⟨m0, m1, m2, m3, m4⟩ := boxed_ex5 NN7.out
    have zN := heap_lt NN7.out
    obtain ⟨b0, b1, b2, b3, b4⟩ := boxed_ex5 EE7.out
    have zE := heap_lt EE7.out
    go_wp2_with fail
    refine (H00.out _ _ _ HZ7.out (H0V.out _)).mono ?_; rintro r w8 ⟨rfl, hb⟩
    have HH8 := Lib.hid (HH7.out.trans (hb.mono HH7.out.size))
    clear hb m0 m1 m2 m3 m4 b0 b1 b2 b3 b4 zN zE
    go_wp2_with fail
    refine (H7.out _ HH8.out).mono ?_; rintro r w9 ⟨rfl, hb⟩
    have HH9 := Lib.hid (HBe.out _ (HH8.out.trans (hb.mono HH8.out.size)))
    clear hb
    go_wp2_with fail
    go_ret
    exact ⟨rfl, HH9.out⟩
  case neg =>
    have q24 : (24 < Z3) = False := eq_false hc
    refine (HYes.out (by omega) _ HH.out).mono ?_; rintro r w5 ⟨z, rfl, hz, hb⟩
    have HTT := Lib.hid (HCt.out (by omega))
    have hse := HSe.out (HFm.out HTT.out)
    rw [hse] at HF
    clear hc HNo HYes HFm HCt H00 HSe hse H0V
    have SS5 := Lib.hid (obj_below SS.out hb (heap_lt SS.out))
    have EE5 := Lib.hid (obj_below EE.out hb (heap_lt EE.out))
    have HH5 := Lib.hid (HH.out.trans (hb.mono HH.out.size))
    obtain ⟨na, nk, nc, rfl⟩ := ex_form hz
    have HZ := Lib.hid hz
    clear hz hb s0 s1 s2 s3 b0 b1 b2 b3 b4 zS zE SS EE HH
    generalize (F1).op = n1' at *
    generalize (F1).t = n2' at *
    generalize (F1).n = n3' at *
    generalize (F1).m = n4' at *
    go_upto_region 7 with fail
    have hb : Below w5.heap.size w5 (w5.alloc (.cells #[.int .i64 n1', .int .i64 n2', .int .i64 n3', .int .i64 n4', .slice na nk nc] 37)) := by (repeat' (first | (with_reducible exact Below.refl _ _) | (with_reducible assumption) | (with_reducible refine below_drewN ?_ _) | (with_reducible refine Below.alloc ?_ ?_ _) | (with_reducible refine Below.drew ?_) | (with_reducible refine Below.setCell ?_ ?_ _) | go_size))
    have oN : (w5.alloc (.cells #[.int .i64 n1', .int .i64 n2', .int .i64 n3', .int .i64 n4', .slice na nk nc] 37)).heap[w5.heap.size]? = some (.cells #[.int .i64 n1', .int .i64 n2', .int .i64 n3', .int .i64 n4', .slice na nk nc] 37) := get_last rfl
    generalize w5.alloc (.cells #[.int .i64 n1', .int .i64 n2', .int .i64 n3', .int .i64 n4', .slice na nk nc] 37) = w6 at *
    have NN6 := Lib.hid oN
    have SS6 := Lib.hid (obj_below SS5.out hb (heap_lt SS5.out))
    have EE6 := Lib.hid (obj_below EE5.out hb (heap_lt EE5.out))
    have HH6 := Lib.hid (HH5.out.trans (hb.mono HH5.out.size))
    have HZ6 := Lib.hid (HZ.out.below hb)
    generalize w5.heap.size = nb at *
    clear hb oN SS5 EE5 HH5 HZ
    obtain ⟨s0, s1, s2, s3⟩ := boxed_four SS6.out
    have zS := heap_lt SS6.out
    obtain ⟨b0, b1, b2, b3, b4⟩ := boxed_ex5 EE6.out
    have zE := heap_lt EE6.out
    go_wp2_with fail
    refine (H6.out _ HH6.out).mono ?_; rintro r w7 ⟨rfl, hb⟩
    have NN7 := Lib.hid (obj_below NN6.out hb (heap_lt NN6.out))
    have EE7 := Lib.hid (obj_below EE6.out hb (heap_lt EE6.out))
    have HH7 := Lib.hid (HH6.out.trans (hb.mono HH6.out.size))
    have HZ7 := Lib.hid (HZ6.out.below hb)
    clear hb s0 s1 s2 s3 b0 b1 b2 b3 b4 zS zE SS6 EE6 NN6 HH6 HZ6
    obtain ⟨m0, m1, m2, m3, m4⟩ := boxed_ex5 NN7.out
    have zN := heap_lt NN7.out
    obtain ⟨b0, b1, b2, b3, b4⟩ := boxed_ex5 EE7.out
    have zE := heap_lt EE7.out
    go_wp2_with fail
    have qq0 := fun wt (h : Below w7.heap.size w7 wt) => cellB h m0 zN
    have qq1 := fun wt (h : Below w7.heap.size w7 wt) => cellB h m1 zN
    have qq2 := fun wt (h : Below w7.heap.size w7 wt) => cellB h m2 zN
    have qq3 := fun wt (h : Below w7.heap.size w7 wt) => cellB h m3 zN
    have qq4 := fun wt (h : Below w7.heap.size w7 wt) => cellB h m4 zN
    have qq5 := fun wt (h : Below w7.heap.size w7 wt) => cellB h b0 zE
    have qq6 := fun wt (h : Below w7.heap.size w7 wt) => cellB h b1 zE
    have qq7 := fun wt (h : Below w7.heap.size w7 wt) => cellB h b2 zE
    have qq8 := fun wt (h : Below w7.heap.size w7 wt) => cellB h b3 zE
    have qq9 := fun wt (h : Below w7.heap.size w7 wt) => cellB h b4 zE
    refine wp_region_held_drew (S := (fun w' => Below w7.heap.size w7 w')) (by kernel_rfl) ?_ (fun hHeld => ?_)
    · (try dsimp only); first | assumption | exact Below.alloc hHeld hHeld.size _ | exact (Below.refl _ _).drew | exact Below.drew (Below.refl _ _) | exact Below_drewN _ _ _ | exact Below.refl _ _
    refine tk 0 (v := ?_) (hy := ?_) (h := ?_); rotate_left
    · intro _ _; go_simp <;> with_reducible rfl
    try simp only [pu, pa, pz, ps]
    refine tk 1 (v := ?_) (hy := ?_) (h := ?_); rotate_left
    · intro _ _; go_simp <;> with_reducible rfl
    try simp only [pu, pa, pz, ps]
    refine tk 2 (v := ?_) (hy := ?_) (h := ?_); rotate_left
    · intro wt hSw; (try dsimp only at hSw); go_simp <;> with_reducible rfl
    try simp only [pu, pa, pz, ps]
    refine tk 3 (v := ?_) (hy := ?_) (h := ?_); rotate_left
    · intro wt hSw; (try dsimp only at hSw); go_simp <;> with_reducible rfl
    try simp only [pu, pa, pz, ps]
    refine wpAnyH_ready (rs := [4]) (by kernel_rfl) (by simp) ?_
    refine AllReadyH.cons (o := ⟨_, _, _, _, _, _⟩) rfl (fun K hK => ?_) AllReadyH.nil
    go_simp
    refine (HAs.out HTT.out _ (HH7.out.trans (hHeld.mono HH7.out.size))).mono ?_; rintro r w8 ⟨z2, rfl, hz2, hb⟩; have hHeld := hHeld.trans (hb.mono hHeld.size); clear hb
    go_wp2_with fail
    refine hK.out _ _ ?_ (fun hHeld => ?_)
    · (try dsimp only); first | assumption | exact Below.alloc hHeld hHeld.size _ | exact (Below.refl _ _).drew | exact Below.drew (Below.refl _ _) | exact Below_drewN _ _ _ | exact Below.refl _ _
    clear hK K
    try simp only [pu, pa, pz, ps]
    refine wpAnyH_ready (rs := [5]) (by kernel_rfl) (by simp) ?_
    refine AllReadyH.cons (o := ⟨_, _, _, _, _, _⟩) rfl (fun K hK => ?_) AllReadyH.nil
    go_simp
    refine (HF.out _ _ _ (HZ7.out.below hHeld) hz2).mono ?_; rintro r w9 ⟨rfl, hb⟩; have hHeld := hHeld.trans (hb.mono hHeld.size); clear hb
    go_wp2_with fail
    refine hK.out _ _ ?_ (fun hHeld => ?_)
    · (try dsimp only); first | assumption | exact Below.alloc hHeld hHeld.size _ | exact (Below.refl _ _).drew | exact Below.drew (Below.refl _ _) | exact Below_drewN _ _ _ | exact Below.refl _ _
    clear hK K
    try simp only [pu, pa, pz, ps]
    refine tk 6 (v := ?_) (hy := ?_) (h := ?_); rotate_left
    · intro _ _; go_simp <;> with_reducible rfl
    try simp only [pu, pa, pz, ps]
    refine tk 7 (v := ?_) (hy := ?_) (h := ?_); rotate_left
    · intro _ _; go_simp <;> with_reducible rfl
    try simp only [pu, pa, pz, ps]
    refine wpAnyH_ready (rs := [8]) (by kernel_rfl) (by simp) ?_
    refine AllReadyH.cons (o := ⟨_, _, _, _, _, _⟩) rfl (fun K hK => ?_) AllReadyH.nil
    go_simp
    refine (H7.out _ (HH7.out.trans (hHeld.mono HH7.out.size))).mono ?_; rintro r w9 ⟨rfl, hb⟩; have hHeld := hHeld.trans (hb.mono hHeld.size); clear hb
    go_wp2_with fail
    refine hK.out _ _ ?_ (fun hHeld => ?_)
    · (try dsimp only); first | assumption | exact Below.alloc hHeld hHeld.size _ | exact (Below.refl _ _).drew | exact Below.drew (Below.refl _ _) | exact Below_drewN _ _ _ | exact Below.refl _ _
    clear hK K
    try simp only [pu, pa, pz, ps]
    refine tk 9 (v := ?_) (hy := ?_) (h := ?_); rotate_left
    · intro _ _; go_simp <;> with_reducible rfl
    try simp only [pu, pa, pz, ps]
    refine tk 10 (v := ?_) (hy := ?_) (h := ?_); rotate_left
    · intro _ _; go_simp <;> with_reducible rfl
    try simp only [pu, pa, pz, ps]
    refine wpAnyH_done (by kernel_rfl) ?_ _
    have HHw := Lib.hid (HBe.out _ (HH7.out.trans (hHeld.mono HH7.out.size)))
    clear hHeld
    go_wp2_with fail
    go_ret
    exact ⟨rfl, HHw.out⟩
end Go.Proofs.YtknbomikiakpmaaDoor
/- Tables of structs and arrays: their cells, one behind the other. -/
namespace Go.Proofs.YtknbomikiakpmaaDoor
open Go.ChangeShapes Go.WideShapes Go.ChangeAt Go.RowKit
section
variable {P : Program}
def flatF {H : Type} : Nat → DataW H → List Value
  | _, .lit l => [leafVal (.lit l : DataW H)]
  | n + 1, .agg ds => ds.flatMap fun d => flatF n d
  | _, _ => []
theorem flatF_lit {H : Type} (n : Nat) (l : Lit) : flatF n (.lit l : DataW H) = [leafVal (.lit l : DataW H)] := by cases n <;> simp [flatF]
/-- a type of m cells that reads as what they hold -/
def FlatAt (P : Program) (t : TypeId) (n m : Nat) : Prop := ∀ {H : Type} (enc : TypeId × Value → H) (w : World) (base : Nat) (sp : Nat → Bool) (held : Bool) (fuel : Nat) (cs : List Value) (x : DataW H × List MemPlace),
  DataW.trod enc P w base sp held fuel t cs = some x → cs.length = m ∧ cs = flatF n x.1
theorem flatAt_int {e : TypeId} {k : IntKind} {n : Nat} (he : P.underlying e = some (.int k)) : FlatAt P e n 1 := by
  intro H enc w base sp held fuel cs x h
  obtain ⟨z, rfl, rfl, _⟩ := DataW.trod_int he h
  exact ⟨rfl, by simp [flatF_lit, leafVal]⟩
theorem flatAt_string {e : TypeId} {n : Nat} (he : P.underlying e = some .string) : FlatAt P e n 1 := by
  intro H enc w base sp held fuel cs x h
  obtain ⟨s, rfl, rfl, _⟩ := DataW.trod_string he h
  exact ⟨rfl, by simp [flatF_lit, leafVal]⟩
theorem cut_rows {H : Type} (f : DataW H → List Value) (m : Nat) : ∀ (n : Nat) (cs : List Value) (ys : List (DataW H)), cs.length = n * m → ys.length = n → (∀ i, i < n → ∃ y, ys[i]? = some y ∧ (cs.drop (i * m)).take m = f y) → cs = ys.flatMap f := by
  intro n
  induction n with
  | zero =>
    intro cs ys h1 h2 _
    obtain rfl : cs = [] := List.length_eq_zero_iff.1 (by omega)
    obtain rfl : ys = [] := List.length_eq_zero_iff.1 h2
    rfl
  | succ n ih =>
    intro cs ys h1 h2 h
    cases ys with
    | nil => simp at h2
    | cons y ys =>
      have h0 := h 0 (by omega)
      obtain ⟨y', hy, hc⟩ := h0
      obtain rfl : y = y' := by simpa using hy
      have hl : cs.length = n * m + m := by rw [h1]; rw [Nat.succ_mul]
      have hr := ih (cs.drop m) ys (by rw [List.length_drop]; omega) (by simpa using h2) (fun i hi => by
        obtain ⟨y'', hy, hc⟩ := h (i + 1) (by omega)
        refine ⟨y'', by simpa using hy, ?_⟩
        rw [List.drop_drop, ← hc]
        congr 2
        rw [Nat.succ_mul]; omega)
      rw [List.flatMap_cons, ← hr, ← hc]
      simp
theorem flatAt_array {t e : TypeId} {n m q : Nat} (ht : P.underlying t = some (.array n e)) (he : FlatAt P e q m) (hce : P.cellsOf e = m) (hct : P.cellsOf t = n * m) : FlatAt P t (q + 1) (n * m) := by
  intro H enc w base sp held fuel cs x h
  obtain ⟨xs, k, rfl, rfl, hl, hn, hall⟩ := DataW.trod_array ht h
  rw [hct] at hl
  refine ⟨hl, ?_⟩
  simp only [flatF]
  refine cut_rows _ m n cs _ hl (by simp [hn]) (fun i hi => ?_)
  have h1 := hall i hi
  obtain ⟨b, hb⟩ : ∃ b, xs[i]? = some b := ⟨xs[i], by simp [hn, hi]⟩
  rw [hb, hce] at h1
  exact ⟨b.1, by simp [hb], (he _ _ _ _ _ _ _ _ h1).2⟩
theorem flatAt_struct {t : TypeId} {fs : Array Field} {q : Nat} (ht : P.underlying t = some (.struct fs)) (hct : P.cellsOf t = fs.size)
    (hf : ∀ (i : Nat) (f : Field), fs[i]? = some f → FlatAt P f.type q 1 ∧ f.offset = i ∧ P.cellsOf f.type = 1) : FlatAt P t (q + 1) fs.size := by
  intro H enc w base sp held fuel cs x h
  obtain ⟨xs, k, rfl, rfl, hl, hn, hall⟩ := DataW.trod_struct ht h
  rw [hct] at hl
  refine ⟨hl, ?_⟩
  simp only [flatF]
  refine cut_rows _ 1 fs.size cs _ (by rw [hl]; omega) (by simp [hn]) (fun i hi => ?_)
  obtain ⟨f, hfi⟩ : ∃ f, fs[i]? = some f := ⟨fs[i], by simp [hi]⟩
  obtain ⟨h1, h2, h3⟩ := hf i f hfi
  have h4 := hall i f hfi
  obtain ⟨b, hb⟩ : ∃ b, xs[i]? = some b := ⟨xs[i], by simp [hn, hi]⟩
  rw [hb, h3, h2] at h4
  exact ⟨b.1, by simp [hb], by rw [Nat.mul_one]; exact (h1 _ _ _ _ _ _ _ _ h4).2⟩
/-- the cells of a table that stands first on the list -/
theorem laid_flat {W : World} {name : String} {d : DataW Unit} {rest : List (String × DataW Unit)} {g : Nat} {t : TypeId} {q m : Nat}
    (hg : P.globalNamed name = some g) (hty : (P.globals[g]?).map (·.type) = some t) (ht : FlatAt P t q m) (h : laidMet P ((name, d) :: rest) W) (i : Nat) : W.cell? ⟨g, i, none⟩ = (flatF q d)[i]? := by
  obtain ⟨ps, ⟨g', t', cs, fuel, p, r, hg', ht', hvar, hd, _, _⟩, _⟩ := h
  obtain rfl := Option.some.inj (hg.symm.trans hg')
  obtain rfl := Option.some.inj (hty.symm.trans ht')
  have := World.var?_cell hg hvar i
  rw [this, ← Array.getElem?_toList, (ht _ _ _ _ _ _ _ _ hd).2]
end
end Go.Proofs.YtknbomikiakpmaaDoor

/- Layer 11: what the rows' lists give. -/
namespace Go.Proofs.YtknbomikiakpmaaDoor
open Go.RowKit
theorem laidMet_of_H {l : List (String × DataW Unit)} {W : World} (h : laidMetH Tryd.prog l W) (hp : (l.all fun x => x.2.handleName?.isNone) = true) : laidMet Tryd.prog l W := (Go.MakeChecks.laidMetH_plain _ _ _ hp) ▸ h
theorem fields_case {fs : Array Field} {ts : Array (TypeId × Nat)} (h : fs.map (fun f => (f.type, f.offset)) = ts) {i : Nat} {f : Field} (hf : fs[i]? = some f) : ts[i]? = some (f.type, f.offset) := by
  rw [← h]; simp [hf]
set_option maxRecDepth 100000 in
theorem flat_shape : FlatAt Tryd.prog 106 1 3 := by
  have hu : Tryd.prog.underlying 106 = some (.struct (Tryd.prog.fieldsOf 106)) := by kernel_rfl
  have hs : (Tryd.prog.fieldsOf 106).size = 3 := by kernel_rfl
  have hm : (Tryd.prog.fieldsOf 106).map (fun f => (f.type, f.offset)) = #[(9, 0), (3, 1), (3, 2)] := by kernel_rfl
  have hc1 : Tryd.prog.cellsOf 9 = 1 := by kernel_rfl
  have hc2 : Tryd.prog.cellsOf 3 = 1 := by kernel_rfl
  have this : FlatAt Tryd.prog 106 1 (Tryd.prog.fieldsOf 106).size := flatAt_struct hu (by rw [hs]; kernel_rfl) (fun i f hf => by
    have hk := fields_case hm hf
    have hi : i < 3 := by
      by_cases h : i < 3
      · exact h
      · rw [Array.getElem?_eq_none (by simp; omega)] at hk; cases hk
    obtain rfl | rfl | rfl : i = 0 ∨ i = 1 ∨ i = 2 := by omega
    all_goals
      have h1 := Option.some.inj hk
      have h2 := congrArg Prod.fst h1
      have h3 := congrArg Prod.snd h1
      simp only at h2 h3
      rw [← h2, ← h3]
      first | exact ⟨flatAt_string Tryd.underlying9, rfl, hc1⟩ | exact ⟨flatAt_int Tryd.underlying3, rfl, hc2⟩)
  rw [hs] at this
  exact @this
set_option maxRecDepth 100000 in
theorem flat_field : FlatAt Tryd.prog 99 1 2 := by
  have hu : Tryd.prog.underlying 99 = some (.struct (Tryd.prog.fieldsOf 99)) := by kernel_rfl
  have hs : (Tryd.prog.fieldsOf 99).size = 2 := by kernel_rfl
  have hm : (Tryd.prog.fieldsOf 99).map (fun f => (f.type, f.offset)) = #[(9, 0), (3, 1)] := by kernel_rfl
  have hc1 : Tryd.prog.cellsOf 9 = 1 := by kernel_rfl
  have hc2 : Tryd.prog.cellsOf 3 = 1 := by kernel_rfl
  have this : FlatAt Tryd.prog 99 1 (Tryd.prog.fieldsOf 99).size := flatAt_struct hu (by rw [hs]; kernel_rfl) (fun i f hf => by
    have hk := fields_case hm hf
    have hi : i < 2 := by
      by_cases h : i < 2
      · exact h
      · rw [Array.getElem?_eq_none (by simp; omega)] at hk; cases hk
    obtain rfl | rfl : i = 0 ∨ i = 1 := by omega
    all_goals
      have h1 := Option.some.inj hk
      have h2 := congrArg Prod.fst h1
      have h3 := congrArg Prod.snd h1
      simp only at h2 h3
      rw [← h2, ← h3]
      first | exact ⟨flatAt_string Tryd.underlying9, rfl, hc1⟩ | exact ⟨flatAt_int Tryd.underlying3, rfl, hc2⟩)
  rw [hs] at this
  exact @this
set_option maxRecDepth 100000 in
theorem bTab_of {W : World} {rest : List (String × DataW Unit)} (h : laidMet Tryd.prog (("ladderback/block.shapes", Rows.laid_ladderback_block_shapes) :: ("ladderback/block.rows", Rows.laid_ladderback_block_rows) :: rest) W) : BTab W := by
  have c := laid_flat (g := 1) (t := 107) (by kernel_rfl) (by kernel_rfl) (show FlatAt Tryd.prog 107 2 (8 * 3) from flatAt_array (n := 8) (m := 3) Tryd.underlying107 flat_shape (by kernel_rfl) (by kernel_rfl)) h
  have d := laid_flat (g := 0) (t := 101) (q := 3) (by kernel_rfl) (by kernel_rfl) (flatAt_array (n := 5) (m := 16) Tryd.underlying101 (flatAt_array (n := 8) (m := 2) Tryd.underlying100 flat_field (by kernel_rfl) (by kernel_rfl)) (by kernel_rfl) (by kernel_rfl)) (laidMet_head_tail h)
  have ec : flatF 2 (Rows.laid_ladderback_block_shapes : DataW Unit) = bShapesV := by kernel_rfl
  have ed : flatF 3 (Rows.laid_ladderback_block_rows : DataW Unit) = rowsV := by kernel_rfl
  rw [ec] at c
  rw [ed] at d
  exact ⟨c, d, big_of_cell (c 0), big_of_cell (d 0)⟩
end Go.Proofs.YtknbomikiakpmaaDoor

/- Layer 26: what the rows' lists give. -/
namespace Go.Proofs.YtknbomikiakpmaaDoor
open Go.RowKit
set_option maxRecDepth 100000 in
theorem aGoes_of {W : World} {rest : List (String × DataW Unit)} (h : laidMet Tryd.prog (("ladderback/alu.goes", Rows.laid_ladderback_alu_goes) :: rest) W) : AGoes W := by
  have c := laid_cells (g := 2) (n := 18) (t := 108) (e := 3) (by kernel_rfl) (by kernel_rfl) Tryd.underlying108 (Or.inl ⟨_, Tryd.underlying3⟩) (by kernel_rfl) (by kernel_rfl) h
  exact ⟨fun i _ => by rw [c i, ← List.getElem?_map]; rfl, big_of_cell (c 0)⟩
theorem exTab_of {W : World} {rest : List (String × DataW Unit)} (h : laidMet Tryd.prog (("ladderback/alu.goes", Rows.laid_ladderback_alu_goes) :: ("ladderback/block.shapes", Rows.laid_ladderback_block_shapes) :: ("ladderback/block.rows", Rows.laid_ladderback_block_rows) :: rest) W) : AGoes W ∧ BTab W :=
  ⟨aGoes_of h, bTab_of (laidMet_head_tail h)⟩
end Go.Proofs.YtknbomikiakpmaaDoor

/- Arguments of nested types, opened. -/
namespace Go.Proofs.YtknbomikiakpmaaDoor
open Go.ChangeShapes Go.WideShapes Go.ChangeAt Go.RowKit Go.Deep
set_option linter.unusedSimpArgs false
set_option linter.unusedVariables false
def Opens {α : Type} (P : Program) (t : TypeId) (q : Nat) (R : Rep α) : Prop := P.cellsOf t = q ∧ ∀ {H : Type} (enc : TypeId × Value → H) (W : World) (sp : Nat → Bool) (held : Bool) (fuel : Nat) (cs : List Value) (x : DataW H × List MemPlace),
  DataW.trod enc P W 0 sp held fuel t cs = some x → ∃ a, R W cs a
set_option maxRecDepth 100000 in
theorem opens_int {P : Program} {t : TypeId} (ht : P.underlying t = some (.int .i64)) (hq : P.cellsOf t = 1) : Opens P t 1 intR := ⟨hq, fun enc W sp held fuel cs x h => by
  obtain ⟨z, rfl, _, hw⟩ := DataW.trod_int ht h
  exact ⟨z, rfl, bounds_i64 hw⟩⟩
set_option maxRecDepth 100000 in
theorem opens_string {P : Program} {t : TypeId} (ht : P.underlying t = some .string) (hq : P.cellsOf t = 1) : Opens P t 1 strR := ⟨hq, fun enc W sp held fuel cs x h => by
  obtain ⟨s, hs, hx, hw⟩ := DataW.trod_string ht h
  refine ⟨s.data.toList, by simpa using hs, ?_⟩
  have e : s.data.toList.length = s.size := by simp
  unfold maxLen at hw
  omega⟩
set_option maxRecDepth 100000 in
theorem choose_list {α : Type} {p : Nat → α → Prop} : ∀ n, (∀ i, i < n → ∃ a, p i a) → ∃ L : List α, L.length = n ∧ ∀ i x, L[i]? = some x → p i x := by
  intro n
  induction n with
  | zero => intro _; exact ⟨[], rfl, fun i x h => by simp at h⟩
  | succ n ih =>
    intro h
    obtain ⟨L, h1, h2⟩ := ih (fun i hi => h i (by omega))
    obtain ⟨a, ha⟩ := h n (by omega)
    refine ⟨L ++ [a], by simp [h1], fun i x hx => ?_⟩
    by_cases hi : i < n
    · rw [List.getElem?_append_left (by omega)] at hx
      exact h2 i x hx
    · have hin : i = n := by
        by_cases he : i = n
        · exact he
        · rw [List.getElem?_eq_none (by simp; omega)] at hx; cases hx
      subst hin
      rw [List.getElem?_append_right (by omega), h1] at hx
      simp at hx
      rw [← hx]
      exact ha
set_option maxRecDepth 100000 in
theorem opens_slice {P : Program} {t e : TypeId} {q : Nat} {α : Type} {R : Rep α} (ht : P.underlying t = some (.slice e)) (hq1 : P.cellsOf t = 1) (hq0 : 0 < q) (he : Opens P e q R) : Opens P t 1 (sliceR q R) := ⟨hq1, fun enc W sp held fuel cs x h => by
  obtain ⟨hq, he⟩ := he
  rcases open_slice ht h with ⟨rfl, hx⟩ | ⟨a, len, cap, m, k, D, Pl, rfl, _, hl, hm, hmm, hx, hi⟩
  · exact ⟨[], _, rfl, Or.inl ⟨_, _, rfl, rfl, fun _ => rfl⟩⟩
  · have hlm : len ≤ m := by rw [hmm]; split <;> omega
    have key : ∀ i, i < len → ∃ y : α, ∃ C : List Value, C.length = q ∧ (∀ j u, C[j]? = some u → W.cell? ((a.add (i * q)).add j) = some u) ∧ R W C y := by
      intro i hin
      obtain ⟨cs', hc, ht'⟩ := hi i (by omega)
      rw [hq] at hc
      obtain ⟨_, hcl, hat⟩ := World.cells?_some hc
      obtain ⟨y, hy⟩ := he enc W sp held k cs' _ ht'
      refine ⟨y, cs', hcl, fun j u hu => ?_, hy⟩
      have hj : j < q := by
        by_cases hj : j < q
        · exact hj
        · rw [List.getElem?_eq_none (by omega)] at hu; cases hu
      rw [hat j hj, hu]
    obtain ⟨L, hL, hLL⟩ := choose_list len key
    refine ⟨L, _, rfl, ?_⟩
    by_cases h0 : len = 0
    · subst h0
      exact Or.inl ⟨_, _, rfl, List.length_eq_zero_iff.1 hL, fun h => by cases h⟩
    obtain ⟨b, off, spot⟩ := a
    obtain ⟨C0, g1, g2, _⟩ := hLL 0 (L[0]'(by omega)) (by simp [show 0 < L.length by omega])
    have hz := g2 0 (C0[0]'(by omega)) (by simp [show 0 < C0.length by omega])
    have hspot : spot = none := by
      have := World.cell?_spot hz
      simpa [Addr.add] using this
    subst hspot
    have hblk := World.block_lt_of_cell? W _ hz
    have adr : ∀ j, (⟨b, off, none⟩ : Addr).add j = ⟨b, off + j, none⟩ := by
      intro j; unfold Addr.add; by_cases hj : j = 0 <;> simp [hj]
    rw [← hL]
    refine Or.inr ⟨b, off, cap, rfl, by omega, by omega, hm, by simpa [add_add, adr] using hblk, fun i x hx => ?_⟩
    obtain ⟨C, g1, g2, g3⟩ := hLL i x hx
    refine ⟨C, g1, fun j u hu => ?_, g3⟩
    have := g2 j u hu
    rw [add_add, adr] at this
    rw [show off + i * q + j = off + (i * q + j) by omega]
    exact this⟩
set_option maxRecDepth 100000 in
/-- the cells of a struct's field -/
theorem opens_field {H : Type} {P : Program} {t : TypeId} {fs : Array Field} {enc : TypeId × Value → H} {W : World} {sp : Nat → Bool} {held : Bool} {fuel : Nat} {cs : List Value} {x : DataW H × List MemPlace} (ht : P.underlying t = some (.struct fs))
    (h : DataW.trod enc P W 0 sp held fuel t cs = some x) (i : Nat) (u : TypeId) (o q : Nat) {α : Type} {R : Rep α} (hf : (fs[i]?.map fun f => (f.type, f.offset)) = some (u, o)) (hu : Opens P u q R) : ∃ a, R W ((cs.drop o).take q) a := by
  obtain ⟨xs, n, rfl, hx, hl, hlen, hall⟩ := DataW.trod_struct ht h
  obtain ⟨f, hf0, hf1⟩ := Option.map_eq_some_iff.1 hf
  have h1 := hall i f hf0
  have ht : f.type = u := congrArg Prod.fst hf1
  have ho : f.offset = o := congrArg Prod.snd hf1
  rw [ht, ho, hu.1] at h1
  have hi : i < fs.size := by
    by_cases hi : i < fs.size
    · exact hi
    · rw [Array.getElem?_eq_none (by omega)] at hf0; cases hf0
  obtain ⟨b, hb⟩ : ∃ b, xs[i]? = some b := ⟨xs[i]'(by omega), by simp [hlen, hi]⟩
  rw [hb] at h1
  exact hu.2 enc W sp held n _ _ h1
set_option maxRecDepth 100000 in
theorem opens_ins : Opens Tryd.prog 130 3 insR := ⟨by kernel_rfl, fun enc W sp held fuel cs x h => by
  have hu : Tryd.prog.underlying 130 = some (.struct (Tryd.prog.fieldsOf 130)) := by kernel_rfl
  have hi := opens_int (P := Tryd.prog) Tryd.underlying3 (by kernel_rfl)
  have hl : cs.length = 3 := by
    obtain ⟨xs, n, _, _, hl, _, _⟩ := DataW.trod_struct hu h
    exact hl.trans (by kernel_rfl)
  obtain ⟨o, h0, w0⟩ := opens_field hu h 0 3 0 1 (by kernel_rfl) hi
  obtain ⟨a, h1, w1⟩ := opens_field hu h 1 3 1 1 (by kernel_rfl) hi
  obtain ⟨b, h2, w2⟩ := opens_field hu h 2 3 2 1 (by kernel_rfl) hi
  refine ⟨(o, a, b), ?_, w0, w1, w2⟩
  match cs, hl with
  | [x, y, z], _ =>
    simp at h0 h1 h2
    rw [h0, h1, h2]⟩
end Go.Proofs.YtknbomikiakpmaaDoor

/- An argument of type api.Unit, opened. -/
namespace Go.Proofs.YtknbomikiakpmaaDoor
open Go.ChangeShapes Go.WideShapes Go.ChangeAt Go.RowKit
set_option maxRecDepth 100000 in
theorem opens_unit : Opens Tryd.prog 72 5 unitR := ⟨by kernel_rfl, fun enc W sp held fuel cs x h => by
  have hu : Tryd.prog.underlying 72 = some (.struct (Tryd.prog.fieldsOf 72)) := by kernel_rfl
  have hi := opens_int (P := Tryd.prog) Tryd.underlying3 (by kernel_rfl)
  have hs := opens_string (P := Tryd.prog) Tryd.underlying9 (by kernel_rfl)
  have hn := opens_slice (P := Tryd.prog) Tryd.underlying32 (by kernel_rfl) (by omega) hi
  have hc := opens_slice (P := Tryd.prog) Tryd.underlying70 (by kernel_rfl) (by omega) opens_ins
  have hl : cs.length = 5 := by
    obtain ⟨xs, n, _, _, hl, _, _⟩ := DataW.trod_struct hu h
    exact hl.trans (by kernel_rfl)
  obtain ⟨o, h0, w0⟩ := opens_field hu h 0 9 0 1 (by kernel_rfl) hs
  obtain ⟨a, v1, h1, w1⟩ := opens_field hu h 1 32 1 1 (by kernel_rfl) hn
  obtain ⟨b, h2, w2⟩ := opens_field hu h 2 3 2 1 (by kernel_rfl) hi
  obtain ⟨c, v3, h3, w3⟩ := opens_field hu h 3 32 3 1 (by kernel_rfl) hn
  obtain ⟨d, v4, h4, w4⟩ := opens_field hu h 4 70 4 1 (by kernel_rfl) hc
  refine ⟨⟨o, a, b, c, d⟩, v1, v3, v4, ?_, w1, w3, w4, w0, w2⟩
  match cs, hl with
  | [x, y, z, t, u], _ =>
    simp at h0 h1 h2 h3 h4
    rw [h0, h1, h2, h3, h4]⟩
end Go.Proofs.YtknbomikiakpmaaDoor

/- An argument of type api.Prog, opened. -/
namespace Go.Proofs.YtknbomikiakpmaaDoor
open Go.ChangeShapes Go.WideShapes Go.ChangeAt Go.RowKit
set_option maxRecDepth 100000 in
theorem opens_const : Opens Tryd.prog 125 2 constR := ⟨by kernel_rfl, fun enc W sp held fuel cs x h => by
  have hu : Tryd.prog.underlying 125 = some (.struct (Tryd.prog.fieldsOf 125)) := by kernel_rfl
  have hi := opens_int (P := Tryd.prog) Tryd.underlying3 (by kernel_rfl)
  have hl : cs.length = 2 := by
    obtain ⟨xs, n, _, _, hl, _, _⟩ := DataW.trod_struct hu h
    exact hl.trans (by kernel_rfl)
  obtain ⟨o, h0, w0⟩ := opens_field hu h 0 3 0 1 (by kernel_rfl) hi
  obtain ⟨a, h1, w1⟩ := opens_field hu h 1 3 1 1 (by kernel_rfl) hi
  refine ⟨(o, a), ?_, w0, w1⟩
  match cs, hl with
  | [x, y], _ =>
    simp at h0 h1
    rw [h0, h1]⟩
set_option maxRecDepth 100000 in
theorem opens_blk : Opens Tryd.prog 86 2 blkR := ⟨by kernel_rfl, fun enc W sp held fuel cs x h => by
  have hu : Tryd.prog.underlying 86 = some (.struct (Tryd.prog.fieldsOf 86)) := by kernel_rfl
  have hi := opens_int (P := Tryd.prog) Tryd.underlying3 (by kernel_rfl)
  have hs := opens_string (P := Tryd.prog) Tryd.underlying9 (by kernel_rfl)
  have hl : cs.length = 2 := by
    obtain ⟨xs, n, _, _, hl, _, _⟩ := DataW.trod_struct hu h
    exact hl.trans (by kernel_rfl)
  obtain ⟨o, h0, w0⟩ := opens_field hu h 0 9 0 1 (by kernel_rfl) hs
  obtain ⟨a, h1, w1⟩ := opens_field hu h 1 3 1 1 (by kernel_rfl) hi
  refine ⟨⟨o, a⟩, ?_, w0, w1⟩
  match cs, hl with
  | [x, y], _ =>
    simp at h0 h1
    rw [h0, h1]⟩
set_option maxRecDepth 100000 in
theorem opens_var : Opens Tryd.prog 84 5 varR := ⟨by kernel_rfl, fun enc W sp held fuel cs x h => by
  have hu : Tryd.prog.underlying 84 = some (.struct (Tryd.prog.fieldsOf 84)) := by kernel_rfl
  have hi := opens_int (P := Tryd.prog) Tryd.underlying3 (by kernel_rfl)
  have hs := opens_string (P := Tryd.prog) Tryd.underlying9 (by kernel_rfl)
  have hl : cs.length = 5 := by
    obtain ⟨xs, n, _, _, hl, _, _⟩ := DataW.trod_struct hu h
    exact hl.trans (by kernel_rfl)
  obtain ⟨o, h0, w0⟩ := opens_field hu h 0 9 0 1 (by kernel_rfl) hs
  obtain ⟨a, h1, w1⟩ := opens_field hu h 1 3 1 1 (by kernel_rfl) hi
  obtain ⟨b, h2, w2⟩ := opens_field hu h 2 3 2 1 (by kernel_rfl) hi
  obtain ⟨c, h3, w3⟩ := opens_field hu h 3 3 3 1 (by kernel_rfl) hi
  obtain ⟨d, h4, w4⟩ := opens_field hu h 4 3 4 1 (by kernel_rfl) hi
  refine ⟨⟨o, a, b, c, d⟩, ?_, w0, w1, w2, w3, w4⟩
  match cs, hl with
  | [x, y, z, t, u], _ =>
    simp at h0 h1 h2 h3 h4
    rw [h0, h1, h2, h3, h4]⟩
end Go.Proofs.YtknbomikiakpmaaDoor

/- An argument of type api.State, opened. -/
namespace Go.Proofs.YtknbomikiakpmaaDoor
open Go.ChangeShapes Go.WideShapes Go.ChangeAt Go.RowKit
set_option maxRecDepth 100000 in
theorem opens_inst : Opens Tryd.prog 128 10 instR := ⟨by kernel_rfl, fun enc W sp held fuel cs x h => by
  have hu : Tryd.prog.underlying 128 = some (.struct (Tryd.prog.fieldsOf 128)) := by kernel_rfl
  have hc : Tryd.prog.cellsOf 3 = 1 := by kernel_rfl
  have hc10 : Tryd.prog.cellsOf 126 = 10 := by kernel_rfl
  obtain ⟨f0, hfs, ht, ho⟩ : ∃ f0, (Tryd.prog.fieldsOf 128)[0]? = some f0 ∧ f0.type = 126 ∧ f0.offset = 0 := ⟨(Tryd.prog.fieldsOf 128)[0]!, by kernel_rfl, by kernel_rfl, by kernel_rfl⟩
  obtain ⟨xs, n, rfl, hx, hl, hlen, hall⟩ := DataW.trod_struct hu h
  have hcl : cs.length = 10 := hl.trans (by kernel_rfl)
  have h0 := hall 0 f0 hfs
  rw [ht, ho, hc10] at h0
  have htake : (cs.drop 0).take 10 = cs := by
    simp only [List.drop_zero]
    exact List.take_of_length_le (by omega)
  rw [htake] at h0
  obtain ⟨y, hy⟩ : ∃ y, xs[0]? = some y := by
    have : 0 < xs.length := by rw [hlen]; exact of_decide_eq_true (by kernel_rfl)
    exact ⟨xs[0], by simp [this]⟩
  rw [hy] at h0
  obtain ⟨es, m, rfl, _, hel, hen, heall⟩ := DataW.trod_array Tryd.underlying126 h0
  have key : ∀ i, i < 10 → ∃ z, cs[i]? = some (.int .i64 z) ∧ I64 z := by
    intro i hi
    have h1 := heall i hi
    rw [hc, Nat.mul_one] at h1
    obtain ⟨b, hb⟩ : ∃ b, es[i]? = some b := ⟨es[i], by simp [hen, hi]⟩
    rw [hb] at h1
    obtain ⟨z, hz, _, hw⟩ := DataW.trod_int Tryd.underlying3 h1
    refine ⟨z, ?_, bounds_i64 hw⟩
    have := congrArg (·[0]?) hz
    simpa [List.getElem?_take, List.getElem?_drop] using this
  obtain ⟨L, hL, hLL⟩ := choose_list 10 key
  refine ⟨L, ?_, hL, fun z hz => ?_⟩
  · apply List.ext_getElem?
    intro i
    by_cases hi : i < 10
    · have h2 : L[i]? = some (L[i]'(by omega)) := by simp [show i < L.length by omega]
      rw [(hLL i _ h2).1, List.getElem?_map, h2]; rfl
    · rw [List.getElem?_eq_none (by omega), List.getElem?_eq_none (by simp; omega)]
  · obtain ⟨i, hi, rfl⟩ := List.getElem_of_mem hz
    exact (hLL i _ (by simp [hi])).2⟩
end Go.Proofs.YtknbomikiakpmaaDoor

/- An argument of type [2]api.State, opened. -/
namespace Go.Proofs.YtknbomikiakpmaaDoor
open Go.ChangeShapes Go.WideShapes Go.ChangeAt Go.RowKit
set_option linter.unusedSimpArgs false
set_option linter.unusedVariables false
def stR : Rep St := fun w cs s => ∃ a b : Value, cs = [a, b, .int .i64 s.now, .int .i64 s.fault] ∧ StAt w a b s
set_option maxRecDepth 100000 in
theorem opens_st : Opens Tryd.prog 31 4 stR := ⟨by kernel_rfl, fun enc W sp held fuel cs x h => by
  have hu : Tryd.prog.underlying 31 = some (.struct (Tryd.prog.fieldsOf 31)) := by kernel_rfl
  have hi := opens_int (P := Tryd.prog) Tryd.underlying3 (by kernel_rfl)
  have hv := opens_slice (P := Tryd.prog) Tryd.underlying28 (by kernel_rfl) (by omega) (opens_slice Tryd.underlying32 (by kernel_rfl) (by omega) hi)
  have hb := opens_slice (P := Tryd.prog) Tryd.underlying29 (by kernel_rfl) (by omega) opens_inst
  have hl : cs.length = 4 := by
    obtain ⟨xs, n, _, _, hl, _, _⟩ := DataW.trod_struct hu h
    exact hl.trans (by kernel_rfl)
  obtain ⟨V, h0⟩ := opens_field hu h 0 28 0 1 (by kernel_rfl) hv
  obtain ⟨B, h1⟩ := opens_field hu h 1 29 1 1 (by kernel_rfl) hb
  obtain ⟨n, h2, w2⟩ := opens_field hu h 2 3 2 1 (by kernel_rfl) hi
  obtain ⟨m, h3, w3⟩ := opens_field hu h 3 3 3 1 (by kernel_rfl) hi
  match cs, hl with
  | [x, y, z, t], _ =>
    simp at h0 h1 h2 h3
    subst h2 h3
    obtain ⟨v0, e0, r0⟩ := h0
    obtain ⟨v1, e1, r1⟩ := h1
    simp at e0 e1
    subst e0 e1
    exact ⟨⟨V, B, n, m⟩, _, _, rfl, r0, r1, w2, w3⟩⟩
end Go.Proofs.YtknbomikiakpmaaDoor

/- An argument of type ladderbacklaw27.Case, opened. -/
namespace Go.Proofs.YtknbomikiakpmaaDoor
open Go.ChangeShapes Go.WideShapes Go.ChangeAt Go.RowKit
set_option linter.unusedSimpArgs false
set_option linter.unusedVariables false
def prR : Rep Pr := fun w cs p => ∃ a b c e : Value, cs = [a, b, c, e] ∧ PrAt w a b c e p
set_option maxRecDepth 100000 in
theorem opens_pr : Opens Tryd.prog 27 4 prR := ⟨by kernel_rfl, fun enc W sp held fuel cs x hf => by
  have hu : Tryd.prog.underlying 27 = some (.struct (Tryd.prog.fieldsOf 27)) := by kernel_rfl
  have hA := opens_slice (P := Tryd.prog) Tryd.underlying22 (by kernel_rfl) (by omega) opens_const
  have hB := opens_slice (P := Tryd.prog) Tryd.underlying23 (by kernel_rfl) (by omega) opens_var
  have hC := opens_slice (P := Tryd.prog) Tryd.underlying24 (by kernel_rfl) (by omega) opens_blk
  have hE := opens_slice (P := Tryd.prog) Tryd.underlying25 (by kernel_rfl) (by omega) opens_unit
  have hl : cs.length = 4 := by
    obtain ⟨xs, n, _, _, hl, _, _⟩ := DataW.trod_struct hu hf
    exact hl.trans (by kernel_rfl)
  obtain ⟨A0, h0⟩ := opens_field hu hf 0 22 0 1 (by kernel_rfl) hA
  obtain ⟨A1, h1⟩ := opens_field hu hf 1 23 1 1 (by kernel_rfl) hB
  obtain ⟨A2, h2⟩ := opens_field hu hf 2 24 2 1 (by kernel_rfl) hC
  obtain ⟨A3, h3⟩ := opens_field hu hf 3 25 3 1 (by kernel_rfl) hE
  match cs, hl with
  | [x, y, z, t], _ =>
    simp at h0 h1 h2 h3
    obtain ⟨v0, e0, r0⟩ := h0
    obtain ⟨v1, e1, r1⟩ := h1
    obtain ⟨v2, e2, r2⟩ := h2
    obtain ⟨v3, e3, r3⟩ := h3
    simp at e0 e1 e2 e3
    subst e0 e1 e2 e3
    exact ⟨⟨A0, A1, A2, A3⟩, _, _, _, _, rfl, r0, r1, r2, r3⟩⟩
set_option maxRecDepth 100000 in
theorem open_case {H : Type} {enc : TypeId × Value → H} {W : World} {r : Reach} {b0 : Nat} {v : Value} {d : DataW H} {ps : List MemPlace} {sp : Nat → Bool} {held : Bool}
    (hval : Value.okWide Tryd.prog W r b0 34 v) (h : DataW.Trod enc Tryd.prog W 0 sp held 34 v d ps) :
    ∃ (a b c e : Value) (p : Pr) (u : Int) (f g : Value) (s : St) (y : Value) (L : List Int), v = .agg #[a, b, c, e, .int .i64 u, f, g, .int .i64 s.now, .int .i64 s.fault, y] ∧ PrAt W a b c e p ∧ StAt W f g s ∧ RowR 1 intR W y L := by
  have hu : Tryd.prog.underlying 34 = some (.struct (Tryd.prog.fieldsOf 34)) := by kernel_rfl
  have hi := opens_int (P := Tryd.prog) Tryd.underlying3 (by kernel_rfl)
  have hv := opens_slice (P := Tryd.prog) Tryd.underlying32 (by kernel_rfl) (by omega) hi
  obtain ⟨cs, rfl, hsz⟩ := okWide_struct hu hval
  have hl : cs.toList.length = 10 := by
    have : Tryd.prog.cellsOf 34 = 10 := by kernel_rfl
    rw [this] at hsz; simpa using hsz
  obtain ⟨fuel, hf⟩ := h
  obtain ⟨p, h0⟩ := opens_field hu hf 0 27 0 4 (by kernel_rfl) opens_pr
  obtain ⟨u, h1, _⟩ := opens_field hu hf 1 3 4 1 (by kernel_rfl) hi
  obtain ⟨s, h2⟩ := opens_field hu hf 2 31 5 4 (by kernel_rfl) opens_st
  obtain ⟨L, h3⟩ := opens_field hu hf 3 32 9 1 (by kernel_rfl) hv
  obtain ⟨l⟩ := cs
  simp only [Value.cells] at h0 h1 h2 h3 hl
  match l, hl with
  | [x0, x1, x2, x3, x4, x5, x6, x7, x8, x9], _ =>
    simp at h0 h1 h2 h3
    obtain ⟨a, b, c, e, e0, r0⟩ := h0
    obtain ⟨f, g, e2, r2⟩ := h2
    obtain ⟨y, e3, r3⟩ := h3
    simp at e0 e2 e3
    obtain ⟨rfl, rfl, rfl, rfl⟩ := e0
    obtain ⟨rfl, rfl, rfl, rfl⟩ := e2
    subst h1 e3
    exact ⟨_, _, _, _, p, _, _, _, s, _, L, rfl, r0, r2, r3⟩
end Go.Proofs.YtknbomikiakpmaaDoor

/- An argument of type api.Expr, opened. -/
namespace Go.Proofs.YtknbomikiakpmaaDoor
open Go.ChangeShapes Go.WideShapes Go.ChangeAt Go.RowKit Go.Deep
set_option linter.unusedSimpArgs false
set_option linter.unusedVariables false
/-- as Opens, for readings of less than N steps -/
def OpensN {α : Type} (P : Program) (t : TypeId) (q : Nat) (R : Rep α) (N : Nat) : Prop := P.cellsOf t = q ∧ ∀ {H : Type} (enc : TypeId × Value → H) (W : World) (sp : Nat → Bool) (held : Bool) (fuel : Nat) (cs : List Value) (x : DataW H × List MemPlace),
  fuel < N → DataW.trod enc P W 0 sp held fuel t cs = some x → ∃ a, R W cs a
theorem OpensN.all {α : Type} {P : Program} {t : TypeId} {q : Nat} {R : Rep α} (h : ∀ N, OpensN P t q R N) : Opens P t q R := ⟨(h 0).1, fun enc W sp held fuel cs x hx => (h (fuel + 1)).2 enc W sp held fuel cs x (Nat.lt_succ_self _) hx⟩
theorem Opens.at {α : Type} {P : Program} {t : TypeId} {q : Nat} {R : Rep α} (h : Opens P t q R) (N : Nat) : OpensN P t q R N := ⟨h.1, fun enc W sp held fuel cs x _ hx => h.2 enc W sp held fuel cs x hx⟩
set_option maxRecDepth 100000 in
theorem opensN_slice {P : Program} {t e : TypeId} {q N : Nat} {α : Type} {R : Rep α} (ht : P.underlying t = some (.slice e)) (hq1 : P.cellsOf t = 1) (hq0 : 0 < q) (he : OpensN P e q R N) : OpensN P t 1 (sliceR q R) (N + 1) := ⟨hq1, fun enc W sp held fuel cs x hfu h => by
  obtain ⟨hq, he⟩ := he
  rcases DataW.trod_slice ht h with ⟨rfl, hx⟩ | ⟨a, len, cap, elems, rest, n, hn, rfl, _, _, hl, hm, hel, hget, _, _⟩
  · exact ⟨[], _, rfl, Or.inl ⟨_, _, rfl, rfl, fun _ => rfl⟩⟩
  · have key : ∀ i, i < len → ∃ y : α, ∃ C : List Value, C.length = q ∧ (∀ j u, C[j]? = some u → W.cell? ((a.add (i * q)).add j) = some u) ∧ R W C y := by
      intro i hin
      have h1 := hget i hin
      rw [hq, List.getElem?_eq_getElem (by omega)] at h1
      obtain ⟨cs', hc, ht'⟩ := Option.bind_eq_some_iff.1 h1
      obtain ⟨_, hcl, hat⟩ := World.cells?_some hc
      obtain ⟨y, hy⟩ := he enc W sp held n cs' _ (by omega) ht'
      refine ⟨y, cs', hcl, fun j u hu => ?_, hy⟩
      have hj : j < q := by
        by_cases hj : j < q
        · exact hj
        · rw [List.getElem?_eq_none (by omega)] at hu; cases hu
      rw [hat j hj, hu]
    obtain ⟨L, hL, hLL⟩ := choose_list len key
    refine ⟨L, _, rfl, ?_⟩
    by_cases h0 : len = 0
    · subst h0
      exact Or.inl ⟨_, _, rfl, List.length_eq_zero_iff.1 hL, fun h => by cases h⟩
    obtain ⟨b, off, spot⟩ := a
    obtain ⟨C0, g1, g2, _⟩ := hLL 0 (L[0]'(by omega)) (by simp [show 0 < L.length by omega])
    have hz := g2 0 (C0[0]'(by omega)) (by simp [show 0 < C0.length by omega])
    have hspot : spot = none := by
      have := World.cell?_spot hz
      simpa [Addr.add] using this
    subst hspot
    have hblk := World.block_lt_of_cell? W _ hz
    have adr : ∀ j, (⟨b, off, none⟩ : Addr).add j = ⟨b, off + j, none⟩ := by
      intro j; unfold Addr.add; by_cases hj : j = 0 <;> simp [hj]
    rw [← hL]
    refine Or.inr ⟨b, off, cap, rfl, by omega, by omega, hm, by simpa [add_add, adr] using hblk, fun i x hx => ?_⟩
    obtain ⟨C, g1, g2, g3⟩ := hLL i x hx
    refine ⟨C, g1, fun j u hu => ?_, g3⟩
    have := g2 j u hu
    rw [add_add, adr] at this
    rw [show off + i * q + j = off + (i * q + j) by omega]
    exact this⟩
set_option maxRecDepth 100000 in
/-- the cells of a struct's field -/
theorem opensN_field {H : Type} {P : Program} {t : TypeId} {fs : Array Field} {enc : TypeId × Value → H} {W : World} {sp : Nat → Bool} {held : Bool} {fuel N : Nat} {cs : List Value} {x : DataW H × List MemPlace} (ht : P.underlying t = some (.struct fs))
    (h : DataW.trod enc P W 0 sp held fuel t cs = some x) (hfu : fuel < N + 1) (i : Nat) (u : TypeId) (o q : Nat) {α : Type} {R : Rep α} (hf : (fs[i]?.map fun f => (f.type, f.offset)) = some (u, o)) (hu : OpensN P u q R N) : ∃ a, R W ((cs.drop o).take q) a := by
  obtain ⟨xs, n, rfl, hx, hl, hlen, hall⟩ := DataW.trod_struct ht h
  obtain ⟨f, hf0, hf1⟩ := Option.map_eq_some_iff.1 hf
  have h1 := hall i f hf0
  have ht : f.type = u := congrArg Prod.fst hf1
  have ho : f.offset = o := congrArg Prod.snd hf1
  rw [ht, ho, hu.1] at h1
  have hi : i < fs.size := by
    by_cases hi : i < fs.size
    · exact hi
    · rw [Array.getElem?_eq_none (by omega)] at hf0; cases hf0
  obtain ⟨b, hb⟩ : ∃ b, xs[i]? = some b := ⟨xs[i]'(by omega), by simp [hlen, hi]⟩
  rw [hb] at h1
  exact hu.2 enc W sp held n _ _ (by omega) h1
set_option maxRecDepth 100000 in
theorem opensN_ex (N : Nat) : OpensN Tryd.prog 37 5 exR N := by
  induction N with
  | zero => exact ⟨by kernel_rfl, fun enc W sp held fuel cs x h => by omega⟩
  | succ N ih =>
    refine ⟨by kernel_rfl, fun enc W sp held fuel cs x hfu h => ?_⟩
    have hu : Tryd.prog.underlying 37 = some (.struct (Tryd.prog.fieldsOf 37)) := by kernel_rfl
    have hi := (opens_int (P := Tryd.prog) Tryd.underlying3 (by kernel_rfl)).at N
    have hs : OpensN Tryd.prog 35 1 (sliceR 5 exR) N := by
      have := opensN_slice Tryd.underlying35 (by kernel_rfl) (by omega) ih
      exact ⟨this.1, fun enc W sp held fuel cs x h => this.2 enc W sp held fuel cs x (by omega)⟩
    have hl : cs.length = 5 := by
      obtain ⟨xs, n, _, _, hl, _, _⟩ := DataW.trod_struct hu h
      exact hl.trans (by kernel_rfl)
    obtain ⟨o, h0, w0⟩ := opensN_field hu h hfu 0 3 0 1 (by kernel_rfl) hi
    obtain ⟨a, h1, w1⟩ := opensN_field hu h hfu 1 3 1 1 (by kernel_rfl) hi
    obtain ⟨b, h2, w2⟩ := opensN_field hu h hfu 2 3 2 1 (by kernel_rfl) hi
    obtain ⟨c, h3, w3⟩ := opensN_field hu h hfu 3 3 3 1 (by kernel_rfl) hi
    obtain ⟨L, v, h4, w4⟩ := opensN_field hu h hfu 4 35 4 1 (by kernel_rfl) hs
    refine ⟨⟨o, a, b, c, L⟩, exR_eq.2 ⟨v, ?_, ⟨w0, w1, w2, w3⟩, w4⟩⟩
    match cs, hl with
    | [x, y, z, t, u], _ =>
      simp at h0 h1 h2 h3 h4
      rw [h0, h1, h2, h3, h4]
set_option maxRecDepth 100000 in
theorem open_expr {H : Type} {enc : TypeId × Value → H} {W : World} {r : Reach} {b0 : Nat} {v : Value} {d : DataW H} {ps : List MemPlace} {sp : Nat → Bool} {held : Bool}
    (hval : Value.okWide Tryd.prog W r b0 37 v) (h : DataW.Trod enc Tryd.prog W 0 sp held 37 v d ps) : ∃ e, ExV W v e := by
  have hu : Tryd.prog.underlying 37 = some (.struct (Tryd.prog.fieldsOf 37)) := by kernel_rfl
  obtain ⟨cs, rfl, hsz⟩ := okWide_struct hu hval
  obtain ⟨fuel, hf⟩ := h
  obtain ⟨e, he⟩ := (opensN_ex (fuel + 1)).2 enc W sp held fuel _ _ (Nat.lt_succ_self _) hf
  have := exV_of he
  rw [show (Value.agg cs).cells = cs from rfl] at this
  exact ⟨e, this⟩
end Go.Proofs.YtknbomikiakpmaaDoor
