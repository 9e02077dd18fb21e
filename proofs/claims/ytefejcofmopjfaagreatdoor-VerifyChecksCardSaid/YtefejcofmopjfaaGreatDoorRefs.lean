/- Layer 18: operands that are there: the program's small functions. -/
import Derived.Test.YtefejcofmopjfaaGreatDoorFewP
import Derived.Test.YtefejcofmopjfaaGreatDoorKeep
import Derived.Test.YtefejcofmopjfaaGreatDoorOpRight
import Derived.Test.YtefejcofmopjfaaGreatDoorAluMore
import Derived.Test.YtefejcofmopjfaaGreatDoorBlockC
namespace Go.Proofs.YtefejcofmopjfaaGreatDoor
open Go.RowKit
set_option linter.unusedSimpArgs false
set_option linter.unusedVariables false
structure TabR (w : World) : Prop where
  st : STab w
  ag : AGoes w
  bs : BSh w
theorem TabR.below {w w' : World} (h : TabR w) (hb : Below w.heap.size w w') : TabR w' := ⟨h.st.below hb, h.ag.below hb, h.bs.below hb⟩
def slotsN (x : Un) : Nat := x.params.length + x.locals.length + (if x.result = 0 then 0 else 1)
def nAt (p : Pr) (a : Int) : Int := (p.vars.getD a.toNat ⟨[], 0, 0, 0, 0⟩).n
def kindAt (p : Pr) (a : Int) : Int := (p.blocks.getD a.toNat ⟨[], 0⟩).kind
def reachN (o k : Int) : Int := if o = 35 then bI k else ((bF k).length : Int)
def varP (p : Pr) (o a : Int) : Bool := decide (a < p.vars.length ∧ ((2 ≤ nAt p a) ↔ (o = 6 ∨ o = 7)))
def typedP (o a b : Int) : Bool := if o = 26 then kRight a && kRight b else (!(oA o == 4) || aGoes o a)
def thereP (p : Pr) (u : Un) (o a b : Int) : Bool :=
  if oA o = 1 then decide (a < p.consts.length) else if oA o = 2 then varP p o a else if oA o = 3 then decide (a < slotsN u) else if oA o = 7 then decide (0 < a ∧ a < p.units.length)
  else if oA o = 8 then decide (a < p.blocks.length ∧ (oB o = 9 → b < reachN o (kindAt p a))) else true
theorem fewU_is {x : Un} (h : fewU x = true) : x.name.length ≤ 300 ∧ x.params.length ≤ 20 ∧ x.locals.length ≤ 1100 ∧ x.code.length ≤ 300 := of_decide_eq_true h
theorem fewP_is {p : Pr} (h : fewP p = true) : (p.consts.length ≤ 60 ∧ p.vars.length ≤ 70 ∧ p.blocks.length ≤ 40 ∧ p.units.length ≤ 10) ∧ (∀ x ∈ p.vars, x.name.length ≤ 300) ∧ (∀ x ∈ p.blocks, x.name.length ≤ 300) ∧ ∀ x ∈ p.units, fewU x = true := of_decide_eq_true h
set_option maxHeartbeats 2000000 in
theorem refs_slots (a b c : Value) (x : Un) (w : World) (h : UnAt w a b c x) (hf : fewU x = true) : Calls Tryz.prog 115 #[.agg #[.string ⟨x.name.toArray⟩, a, .int .i64 x.result, b, c]] w fun e w' => e = .returned (.int .i64 (slotsN x : Nat)) ∧ Below w.heap.size w w' := by
  obtain ⟨_, f1, f2, _⟩ := fewU_is hf
  obtain ⟨sa, ca, rfl⟩ := row_get h.ps
  obtain ⟨sb, cb, rfl⟩ := row_get h.ls
  have cp := @cell_past
  have HD := Lib.hid (show slotsN x = x.params.length + x.locals.length + (if x.result = 0 then 0 else 1) from rfl)
  clear h hf
  generalize (⟨x.name.toArray⟩ : ByteArray) = nm at *
  generalize x.params.length = n1 at *
  generalize x.locals.length = n2 at *
  generalize slotsN x = sn at *
  by_cases h0 : x.result = 0
  · have q : (x.result != 0) = false := by simp [h0]
    have hs := Lib.hid (show (sn : Int) = (n1 : Int) + n2 by rw [HD.out, if_pos h0]; omega)
    clear h0 HD
    go_enter Tryz.func115, Tryz.ntmps115
    go_wp2_with fail
    go_ret
    exact ⟨by rw [hs.out]; rfl, by (repeat' (first | (with_reducible exact Below.refl _ _) | (with_reducible assumption) | (with_reducible refine below_drewN ?_ _) | (with_reducible refine Below.alloc ?_ ?_ _) | (with_reducible refine Below.drew ?_) | (with_reducible refine Below.setCell ?_ ?_ _) | go_size))⟩
  · have q : (x.result != 0) = true := by simpa using h0
    have hs := Lib.hid (show (sn : Int) = (n1 : Int) + n2 + 1 by rw [HD.out, if_neg h0]; omega)
    clear h0 HD
    go_enter Tryz.func115, Tryz.ntmps115
    go_wp2_with fail
    go_ret
    exact ⟨by rw [hs.out]; rfl, by (repeat' (first | (with_reducible exact Below.refl _ _) | (with_reducible assumption) | (with_reducible refine below_drewN ?_ _) | (with_reducible refine Below.alloc ?_ ?_ _) | (with_reducible refine Below.drew ?_) | (with_reducible refine Below.setCell ?_ ?_ _) | go_size))⟩
theorem refs_reach (o k : Int) (w : World) (hT : BSh w) : Calls Tryz.prog 116 #[.int .i64 o, .int .i64 k] w fun e w' => e = .returned (.int .i64 (reachN o k)) ∧ w = w' := by
  by_cases h : o = 35
  · have hs := Lib.hid (show reachN o k = bI k from if_pos h)
    subst h
    go_enter Tryz.func116, Tryz.ntmps116
    go_wp2_with fail
    refine (block_InputsS k _ hT).mono ?_; rintro e w' ⟨rfl, rfl⟩
    go_wp2_with fail
    go_ret
    exact ⟨by rw [hs.out]; rfl, rfl⟩
  · have hs := Lib.hid (show reachN o k = ((bF k).length : Int) from if_neg h)
    have q : (o == 35) = false := by simpa using h
    go_enter Tryz.func116, Tryz.ntmps116
    go_wp2_with fail
    refine (block_FieldsS k _ hT).mono ?_; rintro e w' ⟨rfl, rfl⟩
    go_wp2_with fail
    go_ret
    exact ⟨by rw [hs.out]; rfl, rfl⟩
set_option maxHeartbeats 2000000 in
theorem refs_typed (o a b : Int) (w : World) (hT : TabR w) : Calls Tryz.prog 99 #[.agg #[.int .i64 o, .int .i64 a, .int .i64 b]] w fun e w' => e = .returned (.bool (typedP o a b)) ∧ Below w.heap.size w w' := by
  have cp := @cell_past
  by_cases h : o = 26
  · have hs := Lib.hid (show typedP o a b = (kRight a && kRight b) from if_pos h)
    subst h
    have hA := fun W => kind_Right a W
    have hB := fun W => kind_Right b W
    generalize kRight a = x at *
    generalize kRight b = y at *
    cases x <;> cases y
    all_goals
      go_enter Tryz.func99, Tryz.ntmps99
      go_wp2_with fail
      refine (hA _).mono ?_; rintro e w' ⟨rfl, rfl⟩
      go_wp2_with fail
      try (refine (hB _).mono ?_; rintro e w' ⟨rfl, rfl⟩; go_wp2_with fail)
      go_ret
      exact ⟨by rw [hs.out]; rfl, by (repeat' (first | (with_reducible exact Below.refl _ _) | (with_reducible assumption) | (with_reducible refine below_drewN ?_ _) | (with_reducible refine Below.alloc ?_ ?_ _) | (with_reducible refine Below.drew ?_) | (with_reducible refine Below.setCell ?_ ?_ _) | go_size))⟩
  · have hs := Lib.hid (show typedP o a b = (!(oA o == 4) || aGoes o a) from if_neg h)
    have q : (o == 26) = false := by simpa using h
    have hS := fun W (hb : Below w.heap.size w W) => op_ShapeS o W (hT.st.below hb)
    have hG := fun W (hb : Below w.heap.size w W) => alu_Goes o a W (hT.ag.below hb)
    generalize aGoes o a = g at *
    generalize oB o = ob at *
    by_cases h4 : oA o = 4
    · rw [h4] at hS hs
      cases g
      all_goals
        go_enter Tryz.func99, Tryz.ntmps99
        go_wp2_with fail
        refine (hS _ (by (repeat' (first | (with_reducible exact Below.refl _ _) | (with_reducible assumption) | (with_reducible refine below_drewN ?_ _) | (with_reducible refine Below.alloc ?_ ?_ _) | (with_reducible refine Below.drew ?_) | (with_reducible refine Below.setCell ?_ ?_ _) | go_size)))).mono ?_; rintro e w1 ⟨rfl, m, rfl⟩
        go_wp2_with fail
        refine (hG _ (below_drewN (by (repeat' (first | (with_reducible exact Below.refl _ _) | (with_reducible assumption) | (with_reducible refine below_drewN ?_ _) | (with_reducible refine Below.alloc ?_ ?_ _) | (with_reducible refine Below.drew ?_) | (with_reducible refine Below.setCell ?_ ?_ _) | go_size))) _)).mono ?_; rintro e w' ⟨rfl, rfl⟩
        go_wp2_with fail
        go_ret
        exact ⟨by rw [hs.out]; rfl, below_drewN (by (repeat' (first | (with_reducible exact Below.refl _ _) | (with_reducible assumption) | (with_reducible refine below_drewN ?_ _) | (with_reducible refine Below.alloc ?_ ?_ _) | (with_reducible refine Below.drew ?_) | (with_reducible refine Below.setCell ?_ ?_ _) | go_size))) _⟩
    · have q4 : (oA o != 4) = true := by simpa using h4
      have q5 : (oA o == 4) = false := by simpa using h4
      rw [q5] at hs
      generalize oA o = oa at *
      clear h4 q5
      go_enter Tryz.func99, Tryz.ntmps99
      go_wp2_with fail
      refine (hS _ (by (repeat' (first | (with_reducible exact Below.refl _ _) | (with_reducible assumption) | (with_reducible refine below_drewN ?_ _) | (with_reducible refine Below.alloc ?_ ?_ _) | (with_reducible refine Below.drew ?_) | (with_reducible refine Below.setCell ?_ ?_ _) | go_size)))).mono ?_; rintro e w1 ⟨rfl, m, rfl⟩
      go_wp2_with fail
      go_ret
      exact ⟨by rw [hs.out]; rfl, below_drewN (by (repeat' (first | (with_reducible exact Below.refl _ _) | (with_reducible assumption) | (with_reducible refine below_drewN ?_ _) | (with_reducible refine Below.alloc ?_ ?_ _) | (with_reducible refine Below.drew ?_) | (with_reducible refine Below.setCell ?_ ?_ _) | go_size))) _⟩
set_option maxHeartbeats 4000000 in
theorem refs_variable (pc pv pb pu : Value) (p : Pr) (o a b : Int) (w : World) (h : PrAt w pc pv pb pu p) (ha : 0 ≤ a) :
    Calls Tryz.prog 114 #[.agg #[pc, pv, pb, pu], .agg #[.int .i64 o, .int .i64 a, .int .i64 b]] w fun e w' => e = .returned (.bool (varP p o a)) ∧ Below w.heap.size w w' := by
  have cp := @cell_past
  have hv := h.vs
  have l1 := h.vs.len
  obtain ⟨s1, t1, rfl⟩ := row_get h.vs
  have HD := Lib.hid (show varP p o a = decide (a < p.vars.length ∧ ((2 ≤ nAt p a) ↔ (o = 6 ∨ o = 7))) from rfl)
  clear h
  by_cases h1 : a < p.vars.length
  · obtain ⟨k, rfl⟩ := Int.eq_ofNat_of_zero_le ha
    obtain ⟨x, hx⟩ := get_some (L := p.vars) (n := k) (by omega)
    have hn : nAt p k = x.n := by unfold nAt; simp [List.getD, hx]
    rw [hn] at HD
    obtain ⟨bb, off, rfl, hbw, hc⟩ := var_at hv (k := k) (lt_of_get hx)
    obtain ⟨_, _, c2, _, _, _⟩ := hc k x hx
    have q1 : ((p.vars.length : Int) ≤ (k : Int)) = False := eq_false (by omega)
    have q2 : ((k : Int) < (p.vars.length : Int)) = True := eq_true (by omega)
    clear hc hx hv
    generalize x.n = n at *
    generalize p.vars.length = n1 at *
    by_cases g2 : 2 ≤ n
    · have r2 : (2 ≤ n) = True := eq_true g2
      have r3 : (n < 2) = False := eq_false (by omega)
      by_cases g6 : o = 6
      · have hs := Lib.hid (HD.out.trans (decide_eq_true ⟨h1, iff_of_true g2 (Or.inl g6)⟩))
        subst g6
        clear g2
        go_enter Tryz.func114, Tryz.ntmps114
        go_wp2_with fail
        go_ret
        exact ⟨by rw [hs.out]; rfl, by (repeat' (first | (with_reducible exact Below.refl _ _) | (with_reducible assumption) | (with_reducible refine below_drewN ?_ _) | (with_reducible refine Below.alloc ?_ ?_ _) | (with_reducible refine Below.drew ?_) | (with_reducible refine Below.setCell ?_ ?_ _) | go_size))⟩
      · have e6 : (o == 6) = false := by simpa using g6
        by_cases g7 : o = 7
        · have hs := Lib.hid (HD.out.trans (decide_eq_true ⟨h1, iff_of_true g2 (Or.inr g7)⟩))
          subst g7
          clear g2
          go_enter Tryz.func114, Tryz.ntmps114
          go_wp2_with fail
          go_ret
          exact ⟨by rw [hs.out]; rfl, by (repeat' (first | (with_reducible exact Below.refl _ _) | (with_reducible assumption) | (with_reducible refine below_drewN ?_ _) | (with_reducible refine Below.alloc ?_ ?_ _) | (with_reducible refine Below.drew ?_) | (with_reducible refine Below.setCell ?_ ?_ _) | go_size))⟩
        · have e7 : (o == 7) = false := by simpa using g7
          have hs := Lib.hid (HD.out.trans (decide_eq_false (fun q => (q.2.1 g2).elim g6 g7)))
          clear g2
          go_enter Tryz.func114, Tryz.ntmps114
          go_wp2_with fail
          go_ret
          exact ⟨by rw [hs.out]; rfl, by (repeat' (first | (with_reducible exact Below.refl _ _) | (with_reducible assumption) | (with_reducible refine below_drewN ?_ _) | (with_reducible refine Below.alloc ?_ ?_ _) | (with_reducible refine Below.drew ?_) | (with_reducible refine Below.setCell ?_ ?_ _) | go_size))⟩
    · have r2 : (2 ≤ n) = False := eq_false g2
      have r3 : (n < 2) = True := eq_true (by omega)
      by_cases g6 : o = 6
      · have hs := Lib.hid (HD.out.trans (decide_eq_false (fun q => g2 (q.2.2 (Or.inl g6)))))
        subst g6
        clear g2
        go_enter Tryz.func114, Tryz.ntmps114
        go_wp2_with fail
        go_ret
        exact ⟨by rw [hs.out]; rfl, by (repeat' (first | (with_reducible exact Below.refl _ _) | (with_reducible assumption) | (with_reducible refine below_drewN ?_ _) | (with_reducible refine Below.alloc ?_ ?_ _) | (with_reducible refine Below.drew ?_) | (with_reducible refine Below.setCell ?_ ?_ _) | go_size))⟩
      · have e6 : (o == 6) = false := by simpa using g6
        by_cases g7 : o = 7
        · have hs := Lib.hid (HD.out.trans (decide_eq_false (fun q => g2 (q.2.2 (Or.inr g7)))))
          subst g7
          clear g2
          go_enter Tryz.func114, Tryz.ntmps114
          go_wp2_with fail
          go_ret
          exact ⟨by rw [hs.out]; rfl, by (repeat' (first | (with_reducible exact Below.refl _ _) | (with_reducible assumption) | (with_reducible refine below_drewN ?_ _) | (with_reducible refine Below.alloc ?_ ?_ _) | (with_reducible refine Below.drew ?_) | (with_reducible refine Below.setCell ?_ ?_ _) | go_size))⟩
        · have e7 : (o == 7) = false := by simpa using g7
          have hs := Lib.hid (HD.out.trans (decide_eq_true ⟨h1, iff_of_false g2 (fun q => q.elim g6 g7)⟩))
          clear g2
          go_enter Tryz.func114, Tryz.ntmps114
          go_wp2_with fail
          go_ret
          exact ⟨by rw [hs.out]; rfl, by (repeat' (first | (with_reducible exact Below.refl _ _) | (with_reducible assumption) | (with_reducible refine below_drewN ?_ _) | (with_reducible refine Below.alloc ?_ ?_ _) | (with_reducible refine Below.drew ?_) | (with_reducible refine Below.setCell ?_ ?_ _) | go_size))⟩
  · have hs := Lib.hid (HD.out.trans (decide_eq_false (fun q => h1 q.1)))
    have q1 : ((p.vars.length : Int) ≤ a) = True := eq_true (by omega)
    have q2 : (a < (p.vars.length : Int)) = False := eq_false (by omega)
    clear hv
    generalize p.vars.length = n1 at *
    go_enter Tryz.func114, Tryz.ntmps114
    go_wp2_with fail
    go_ret
    exact ⟨by rw [hs.out]; rfl, by (repeat' (first | (with_reducible exact Below.refl _ _) | (with_reducible assumption) | (with_reducible refine below_drewN ?_ _) | (with_reducible refine Below.alloc ?_ ?_ _) | (with_reducible refine Below.drew ?_) | (with_reducible refine Below.setCell ?_ ?_ _) | go_size))⟩
end Go.Proofs.YtefejcofmopjfaaGreatDoor
