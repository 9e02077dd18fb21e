/- Layer 15: Put: two of its regions. -/
import Derived.Test.YtpeogdbfhfkngaaDoorUnFit
import Derived.Test.YtpeogdbfhfkngaaDoorChunk
import Derived.Test.YtpeogdbfhfkngaaDoorFacts
import Derived.Test.YtpeogdbfhfkngaaDoorOctetText
import Derived.Test.YtpeogdbfhfkngaaDoorOwnLow
namespace Go.Proofs.YtpeogdbfhfkngaaDoor
open Go.RowKit
set_option linter.unusedSimpArgs false
set_option linter.unusedVariables false
set_option maxHeartbeats 4000000 in
theorem unitPut_r3 (W0 : World) (gp : Nat) (s : ByteArray) (sa : Option Addr) (n1 ca N : Nat) (T : List UInt8) (hgp : gp < W0.heap.size) (C0 : W0.cell? ⟨gp, 0, none⟩ = some (.string s)) (C1 : W0.cell? ⟨gp, 1, none⟩ = some (.slice sa n1 ca)) (hn : N ≤ 1000) (hn1 : n1 ≤ 1000) (hT : T.length = N) (HT : Hid (∀ W : World, Calls Tryd.prog 18 #[.slice none 0 0, .string s] W fun e w' => ∃ r, e = .returned r ∧ w'.ownsRow W.heap.size 5 1 r N (bytesV T) ∧ Below W.heap.size W w')) (i : TypeInfo) (hi : Tryd.prog.info? 5 = some i) (hz : i.zero = some (.int .u8 0)) (hsize : i.size = 1) (hby : i.bytes = 1) (t0 t2 t3 t4 t5 t6 t7 t8 t9 t10 t11 t12 t13 t14 t15 t16 t17 t18 t19 t20 t21 t22 t23 t24 t25 t26 t27 t28 t29 t30 t31 t32 t33 t34 t35 t36 t37 t38 t39 t40 t41 t42 t43 t44 t45 t46 t47 t48 t49 t50 t51 : Value) :
    (Code.region 3 #[{ dst := some 10, op := Op.fieldAddr 25 (Operand.tmp 1) 0, type := 0, pos := "unit.go:72", after := #[], guard := none }, { dst := some 11, op := Op.load 9 (Operand.tmp 10), type := 9, pos := "unit.go:72", after := #[{ on := 0, ground := Ground.data }], guard := none }, { dst := some 12, op := Op.call { callee := Callee.value (Operand.func 18), args := #[Operand.const (Value.slice none 0 0), Operand.tmp 11], argTypes := #[28, 9] }, type := 28, pos := "unit.go:72", after := #[{ on := 1, ground := Ground.data }], guard := none }, { dst := some 13, op := Op.fieldAddr 25 (Operand.tmp 1) 1, type := 0, pos := "unit.go:72", after := #[], guard := none }, { dst := some 14, op := Op.load 22 (Operand.tmp 13), type := 22, pos := "unit.go:72", after := #[{ on := 3, ground := Ground.data }], guard := none }, { dst := some 15, op := Op.call { callee := Callee.builtin Builtin.len, args := #[Operand.tmp 14], argTypes := #[22] }, type := 3, pos := "unit.go:72", after := #[{ on := 4, ground := Ground.data }], guard := none }, { dst := some 16, op := Op.convert 3 5 (Operand.tmp 15), type := 5, pos := "unit.go:72", after := #[{ on := 5, ground := Ground.data }], guard := none }, { dst := some 17, op := Op.buildSlice 28 1 #[(0, Operand.tmp 16)], type := 28, pos := "unit.go:72", after := #[{ on := 6, ground := Ground.data }], guard := none }, { dst := some 18, op := Op.call { callee := Callee.builtin Builtin.append, args := #[Operand.tmp 12, Operand.tmp 17], argTypes := #[28, 28] }, type := 28, pos := "unit.go:72", after := #[{ on := 2, ground := Ground.data }, { on := 7, ground := Ground.data }, { on := 2, ground := Ground.chain }], guard := none }, { dst := some 4, op := Op.assign (Operand.tmp 18), type := 28, pos := "unit.go:72", after := #[{ on := 8, ground := Ground.data }, { on := 8, ground := Ground.chain }, { on := 0, ground := Ground.phase }, { on := 1, ground := Ground.phase }, { on := 2, ground := Ground.phase }, { on := 3, ground := Ground.phase }, { on := 4, ground := Ground.phase }, { on := 5, ground := Ground.phase }, { on := 6, ground := Ground.phase }, { on := 7, ground := Ground.phase }, { on := 8, ground := Ground.phase }], guard := none }] true).wp Tryd.prog (fun e b v => e = Exit.normal ∧ ∃ u4 u10 u11 u12 u13 u14 u15 u16 u17 u18 : Value, b = ⟨#[t0, .pointer (some ⟨gp, 0, none⟩), t2, t3, u4, t5, t6, t7, t8, t9, u10, u11, u12, u13, u14, u15, u16, u17, u18, t19, t20, t21, t22, t23, t24, t25, t26, t27, t28, t29, t30, t31, t32, t33, t34, t35, t36, t37, t38, t39, t40, t41, t42, t43, t44, t45, t46, t47, t48, t49, t50, t51], []⟩ ∧ Below W0.heap.size W0 v ∧ (v.ownsRow W0.heap.size 5 1 u4 (N + 1) (bytesV T ++ [.int .u8 ((n1 : Int) % 256)]))) ⟨#[t0, .pointer (some ⟨gp, 0, none⟩), t2, t3, t4, t5, t6, t7, t8, t9, t10, t11, t12, t13, t14, t15, t16, t17, t18, t19, t20, t21, t22, t23, t24, t25, t26, t27, t28, t29, t30, t31, t32, t33, t34, t35, t36, t37, t38, t39, t40, t41, t42, t43, t44, t45, t46, t47, t48, t49, t50, t51], []⟩ W0 := by
  refine wp_region_facts (n := 10) (fun L b v => ∃ u4 u10 u11 u12 u13 u14 u15 u16 u17 u18 : Value, b = ⟨#[t0, .pointer (some ⟨gp, 0, none⟩), t2, t3, u4, t5, t6, t7, t8, t9, u10, u11, u12, u13, u14, u15, u16, u17, u18, t19, t20, t21, t22, t23, t24, t25, t26, t27, t28, t29, t30, t31, t32, t33, t34, t35, t36, t37, t38, t39, t40, t41, t42, t43, t44, t45, t46, t47, t48, t49, t50, t51], []⟩ ∧ Below W0.heap.size W0 v ∧ (L.getD 0 false = true → u10 = .pointer (some ⟨gp, 0, none⟩)) ∧ (L.getD 1 false = true → u11 = .string s) ∧ (L.getD 2 false = true → L.getD 8 true = false → v.ownsRow W0.heap.size 5 1 u12 N (bytesV T)) ∧ (L.getD 3 false = true → u13 = .pointer (some ⟨gp, 1, none⟩)) ∧ (L.getD 4 false = true → u14 = .slice sa n1 ca) ∧ (L.getD 5 false = true → u15 = .int .i64 n1) ∧ (L.getD 6 false = true → u16 = .int .u8 ((n1 : Int) % 256)) ∧ (L.getD 7 false = true → L.getD 8 true = false → ∃ p, u17 = .slice (some ⟨p, 0, none⟩) 1 1 ∧ v.heap[p]? = some (.cells #[.int .u8 ((n1 : Int) % 256)] 5)) ∧ (L.getD 8 false = true → v.ownsRow W0.heap.size 5 1 u18 (N + 1) (bytesV T ++ [.int .u8 ((n1 : Int) % 256)])) ∧ (L.getD 9 false = true → v.ownsRow W0.heap.size 5 1 u4 (N + 1) (bytesV T ++ [.int .u8 ((n1 : Int) % 256)]))) (by kernel_rfl) (by kernel_rfl) (by kernel_rfl) ?_ ?_ ?_
  · refine ⟨_, _, _, _, _, _, _, _, _, _, rfl, (Below.refl _ _).drew, flag_new, flag_new, flag_new, flag_new, flag_new, flag_new, flag_new, flag_new, flag_new, flag_new⟩
  · refine AllSteps.succ (AllSteps.succ (AllSteps.succ (AllSteps.succ (AllSteps.succ (AllSteps.succ (AllSteps.succ (AllSteps.succ (AllSteps.succ (AllSteps.succ AllSteps.zero ?_) ?_) ?_) ?_) ?_) ?_) ?_) ?_) ?_) ?_
    · refine StepAt.mk (o := { dst := some 10, op := Op.fieldAddr 25 (Operand.tmp 1) 0, type := 0, pos := _, after := #[], guard := none }) (ws := []) rfl (by kernel_rfl) ?_
      intro L b v hC h0 hA h
      refine h.elim ?_; clear h; intro u4 h
      refine h.elim ?_; clear h; intro u10 h
      refine h.elim ?_; clear h; intro u11 h
      refine h.elim ?_; clear h; intro u12 h
      refine h.elim ?_; clear h; intro u13 h
      refine h.elim ?_; clear h; intro u14 h
      refine h.elim ?_; clear h; intro u15 h
      refine h.elim ?_; clear h; intro u16 h
      refine h.elim ?_; clear h; intro u17 h
      refine h.elim ?_; clear h; intro u18 h
      have hbb := h.1; replace h := h.2; subst hbb
      have hHeld := h.1; replace h := h.2
      have f0 := h.1; replace h := h.2
      have f1 := h.1; replace h := h.2
      have f2 := h.1; replace h := h.2
      have f3 := h.1; replace h := h.2
      have f4 := h.1; replace h := h.2
      have f5 := h.1; replace h := h.2
      have f6 := h.1; replace h := h.2
      have f7 := h.1; replace h := h.2
      have f8 := h.1; replace h := h.2
      have f9 := h; clear h
      intro K hK
      rw [if_pos (by kernel_rfl)]
      have q0 := cellB hHeld C0 hgp
      have q1 := cellB hHeld C1 hgp
      go_simp
      try simp only [Act.put, List.setIfInBounds_toArray, List.set_cons_zero, List.set_cons_succ]
      refine hK.out _ _ ⟨_, _, _, _, _, _, _, _, _, _, rfl, ?_, ?_, ?_, ?_, ?_, ?_, ?_, ?_, ?_, ?_, ?_⟩
      · first | exact hHeld | exact hHeld.trans (hb.mono hHeld.size) | (trace_state; fail)
      · intro _; first | rfl | (trace_state; fail)
      · first | exact flag_ne (by decide) f1 | exact fun _ => rfl
      · intro h _; rw [getD_set_ne false (by decide)] at h; exact (getD_no h0 (hC.step (j := 1) (k := 0) (hC.step (j := 2) (k := 1) h (by kernel_rfl)) (by kernel_rfl))).elim
      · first | exact flag_ne (by decide) f3 | exact fun _ => rfl
      · first | exact flag_ne (by decide) f4 | exact fun _ => rfl
      · first | exact flag_ne (by decide) f5 | exact fun _ => rfl
      · first | exact flag_ne (by decide) f6 | exact fun _ => rfl
      · intro h h7; rw [getD_set_ne false (by decide)] at h; rw [getD_set_ne true (by decide)] at h7; have := f7 h h7; obtain ⟨p, z1, z3⟩ := this; exact (by first | exact ⟨p, z1, z3⟩ | exact ⟨p, z1, obj_below z3 hb⟩)
      · intro h; rw [getD_set_ne false (by decide)] at h; exact (getD_no h0 (hC.step (j := 1) (k := 0) (hC.step (j := 2) (k := 1) (hC.step (j := 8) (k := 2) h (by kernel_rfl)) (by kernel_rfl)) (by kernel_rfl))).elim
      · intro h; rw [getD_set_ne false (by decide)] at h; exact (getD_no h0 (hC.step (j := 9) (k := 0) h (by kernel_rfl))).elim
    · refine StepAt.mk (o := { dst := some 11, op := Op.load 9 (Operand.tmp 10), type := 9, pos := _, after := #[{ on := 0, ground := Ground.data }], guard := none }) (ws := [0]) rfl (by kernel_rfl) ?_
      intro L b v hC h0 hA h
      refine h.elim ?_; clear h; intro u4 h
      refine h.elim ?_; clear h; intro u10 h
      refine h.elim ?_; clear h; intro u11 h
      refine h.elim ?_; clear h; intro u12 h
      refine h.elim ?_; clear h; intro u13 h
      refine h.elim ?_; clear h; intro u14 h
      refine h.elim ?_; clear h; intro u15 h
      refine h.elim ?_; clear h; intro u16 h
      refine h.elim ?_; clear h; intro u17 h
      refine h.elim ?_; clear h; intro u18 h
      have hbb := h.1; replace h := h.2; subst hbb
      have hHeld := h.1; replace h := h.2
      have f0 := h.1; replace h := h.2
      have f1 := h.1; replace h := h.2
      have f2 := h.1; replace h := h.2
      have f3 := h.1; replace h := h.2
      have f4 := h.1; replace h := h.2
      have f5 := h.1; replace h := h.2
      have f6 := h.1; replace h := h.2
      have f7 := h.1; replace h := h.2
      have f8 := h.1; replace h := h.2
      have f9 := h; clear h
      intro K hK
      have g0 := f0 (hA 0 (by simp))
      obtain rfl := g0
      rw [if_pos (by kernel_rfl)]
      have q0 := cellB hHeld C0 hgp
      have q1 := cellB hHeld C1 hgp
      go_simp
      try simp only [Act.put, List.setIfInBounds_toArray, List.set_cons_zero, List.set_cons_succ]
      refine hK.out _ _ ⟨_, _, _, _, _, _, _, _, _, _, rfl, ?_, ?_, ?_, ?_, ?_, ?_, ?_, ?_, ?_, ?_, ?_⟩
      · first | exact hHeld | exact hHeld.trans (hb.mono hHeld.size) | (trace_state; fail)
      · first | exact flag_ne (by decide) f0 | exact fun _ => rfl
      · intro _; first | rfl | (trace_state; fail)
      · intro h _; rw [getD_set_ne false (by decide)] at h; exact (getD_no h0 (hC.step (j := 2) (k := 1) h (by kernel_rfl))).elim
      · first | exact flag_ne (by decide) f3 | exact fun _ => rfl
      · first | exact flag_ne (by decide) f4 | exact fun _ => rfl
      · first | exact flag_ne (by decide) f5 | exact fun _ => rfl
      · first | exact flag_ne (by decide) f6 | exact fun _ => rfl
      · intro h h7; rw [getD_set_ne false (by decide)] at h; rw [getD_set_ne true (by decide)] at h7; have := f7 h h7; obtain ⟨p, z1, z3⟩ := this; exact (by first | exact ⟨p, z1, z3⟩ | exact ⟨p, z1, obj_below z3 hb⟩)
      · intro h; rw [getD_set_ne false (by decide)] at h; exact (getD_no h0 (hC.step (j := 2) (k := 1) (hC.step (j := 8) (k := 2) h (by kernel_rfl)) (by kernel_rfl))).elim
      · intro h; rw [getD_set_ne false (by decide)] at h; exact (getD_no h0 (hC.step (j := 9) (k := 1) h (by kernel_rfl))).elim
    · refine StepAt.mk (o := { dst := some 12, op := Op.call { callee := Callee.value (Operand.func 18), args := #[Operand.const (Value.slice none 0 0), Operand.tmp 11], argTypes := #[28, 9] }, type := 28, pos := _, after := #[{ on := 1, ground := Ground.data }], guard := none }) (ws := [1]) rfl (by kernel_rfl) ?_
      intro L b v hC h0 hA h
      refine h.elim ?_; clear h; intro u4 h
      refine h.elim ?_; clear h; intro u10 h
      refine h.elim ?_; clear h; intro u11 h
      refine h.elim ?_; clear h; intro u12 h
      refine h.elim ?_; clear h; intro u13 h
      refine h.elim ?_; clear h; intro u14 h
      refine h.elim ?_; clear h; intro u15 h
      refine h.elim ?_; clear h; intro u16 h
      refine h.elim ?_; clear h; intro u17 h
      refine h.elim ?_; clear h; intro u18 h
      have hbb := h.1; replace h := h.2; subst hbb
      have hHeld := h.1; replace h := h.2
      have f0 := h.1; replace h := h.2
      have f1 := h.1; replace h := h.2
      have f2 := h.1; replace h := h.2
      have f3 := h.1; replace h := h.2
      have f4 := h.1; replace h := h.2
      have f5 := h.1; replace h := h.2
      have f6 := h.1; replace h := h.2
      have f7 := h.1; replace h := h.2
      have f8 := h.1; replace h := h.2
      have f9 := h; clear h
      intro K hK
      have g1 := f1 (hA 1 (by simp))
      obtain rfl := g1
      rw [if_pos (by kernel_rfl)]
      have q0 := cellB hHeld C0 hgp
      have q1 := cellB hHeld C1 hgp
      go_simp
      refine (HT.out v).mono ?_; rintro e v1 ⟨r, rfl, HO, hb⟩
      go_wp2_with fail
      try simp only [Act.put, List.setIfInBounds_toArray, List.set_cons_zero, List.set_cons_succ]
      refine hK.out _ _ ⟨_, _, _, _, _, _, _, _, _, _, rfl, ?_, ?_, ?_, ?_, ?_, ?_, ?_, ?_, ?_, ?_, ?_⟩
      · first | exact hHeld | exact hHeld.trans (hb.mono hHeld.size) | (trace_state; fail)
      · first | exact flag_ne (by decide) f0 | exact fun _ => rfl
      · first | exact flag_ne (by decide) f1 | exact fun _ => rfl
      · intro _ _; first | (exact own_low HO hHeld.size) | (trace_state; fail)
      · first | exact flag_ne (by decide) f3 | exact fun _ => rfl
      · first | exact flag_ne (by decide) f4 | exact fun _ => rfl
      · first | exact flag_ne (by decide) f5 | exact fun _ => rfl
      · first | exact flag_ne (by decide) f6 | exact fun _ => rfl
      · intro h h7; rw [getD_set_ne false (by decide)] at h; rw [getD_set_ne true (by decide)] at h7; have := f7 h h7; obtain ⟨p, z1, z3⟩ := this; exact (by first | exact ⟨p, z1, z3⟩ | exact ⟨p, z1, obj_below z3 hb⟩)
      · intro h; rw [getD_set_ne false (by decide)] at h; exact (getD_no h0 (hC.step (j := 8) (k := 2) h (by kernel_rfl))).elim
      · intro h; rw [getD_set_ne false (by decide)] at h; exact (getD_no h0 (hC.step (j := 9) (k := 2) h (by kernel_rfl))).elim
    · refine StepAt.mk (o := { dst := some 13, op := Op.fieldAddr 25 (Operand.tmp 1) 1, type := 0, pos := _, after := #[], guard := none }) (ws := []) rfl (by kernel_rfl) ?_
      intro L b v hC h0 hA h
      refine h.elim ?_; clear h; intro u4 h
      refine h.elim ?_; clear h; intro u10 h
      refine h.elim ?_; clear h; intro u11 h
      refine h.elim ?_; clear h; intro u12 h
      refine h.elim ?_; clear h; intro u13 h
      refine h.elim ?_; clear h; intro u14 h
      refine h.elim ?_; clear h; intro u15 h
      refine h.elim ?_; clear h; intro u16 h
      refine h.elim ?_; clear h; intro u17 h
      refine h.elim ?_; clear h; intro u18 h
      have hbb := h.1; replace h := h.2; subst hbb
      have hHeld := h.1; replace h := h.2
      have f0 := h.1; replace h := h.2
      have f1 := h.1; replace h := h.2
      have f2 := h.1; replace h := h.2
      have f3 := h.1; replace h := h.2
      have f4 := h.1; replace h := h.2
      have f5 := h.1; replace h := h.2
      have f6 := h.1; replace h := h.2
      have f7 := h.1; replace h := h.2
      have f8 := h.1; replace h := h.2
      have f9 := h; clear h
      intro K hK
      rw [if_pos (by kernel_rfl)]
      have q0 := cellB hHeld C0 hgp
      have q1 := cellB hHeld C1 hgp
      go_simp
      try simp only [Act.put, List.setIfInBounds_toArray, List.set_cons_zero, List.set_cons_succ]
      refine hK.out _ _ ⟨_, _, _, _, _, _, _, _, _, _, rfl, ?_, ?_, ?_, ?_, ?_, ?_, ?_, ?_, ?_, ?_, ?_⟩
      · first | exact hHeld | exact hHeld.trans (hb.mono hHeld.size) | (trace_state; fail)
      · first | exact flag_ne (by decide) f0 | exact fun _ => rfl
      · first | exact flag_ne (by decide) f1 | exact fun _ => rfl
      · intro h h7; rw [getD_set_ne false (by decide)] at h; rw [getD_set_ne true (by decide)] at h7; have := f2 h h7; first | exact this | exact owns_below this hb | (trace_state; fail)
      · intro _; first | rfl | (trace_state; fail)
      · first | exact flag_ne (by decide) f4 | exact fun _ => rfl
      · first | exact flag_ne (by decide) f5 | exact fun _ => rfl
      · first | exact flag_ne (by decide) f6 | exact fun _ => rfl
      · intro h _; rw [getD_set_ne false (by decide)] at h; exact (getD_no h0 (hC.step (j := 4) (k := 3) (hC.step (j := 5) (k := 4) (hC.step (j := 6) (k := 5) (hC.step (j := 7) (k := 6) h (by kernel_rfl)) (by kernel_rfl)) (by kernel_rfl)) (by kernel_rfl))).elim
      · intro h; rw [getD_set_ne false (by decide)] at h; exact (getD_no h0 (hC.step (j := 4) (k := 3) (hC.step (j := 5) (k := 4) (hC.step (j := 6) (k := 5) (hC.step (j := 7) (k := 6) (hC.step (j := 8) (k := 7) h (by kernel_rfl)) (by kernel_rfl)) (by kernel_rfl)) (by kernel_rfl)) (by kernel_rfl))).elim
      · intro h; rw [getD_set_ne false (by decide)] at h; exact (getD_no h0 (hC.step (j := 9) (k := 3) h (by kernel_rfl))).elim
    · refine StepAt.mk (o := { dst := some 14, op := Op.load 22 (Operand.tmp 13), type := 22, pos := _, after := #[{ on := 3, ground := Ground.data }], guard := none }) (ws := [3]) rfl (by kernel_rfl) ?_
      intro L b v hC h0 hA h
      refine h.elim ?_; clear h; intro u4 h
      refine h.elim ?_; clear h; intro u10 h
      refine h.elim ?_; clear h; intro u11 h
      refine h.elim ?_; clear h; intro u12 h
      refine h.elim ?_; clear h; intro u13 h
      refine h.elim ?_; clear h; intro u14 h
      refine h.elim ?_; clear h; intro u15 h
      refine h.elim ?_; clear h; intro u16 h
      refine h.elim ?_; clear h; intro u17 h
      refine h.elim ?_; clear h; intro u18 h
      have hbb := h.1; replace h := h.2; subst hbb
      have hHeld := h.1; replace h := h.2
      have f0 := h.1; replace h := h.2
      have f1 := h.1; replace h := h.2
      have f2 := h.1; replace h := h.2
      have f3 := h.1; replace h := h.2
      have f4 := h.1; replace h := h.2
      have f5 := h.1; replace h := h.2
      have f6 := h.1; replace h := h.2
      have f7 := h.1; replace h := h.2
      have f8 := h.1; replace h := h.2
      have f9 := h; clear h
      intro K hK
      have g3 := f3 (hA 3 (by simp))
      obtain rfl := g3
      rw [if_pos (by kernel_rfl)]
      have q0 := cellB hHeld C0 hgp
      have q1 := cellB hHeld C1 hgp
      go_simp
      try simp only [Act.put, List.setIfInBounds_toArray, List.set_cons_zero, List.set_cons_succ]
      refine hK.out _ _ ⟨_, _, _, _, _, _, _, _, _, _, rfl, ?_, ?_, ?_, ?_, ?_, ?_, ?_, ?_, ?_, ?_, ?_⟩
      · first | exact hHeld | exact hHeld.trans (hb.mono hHeld.size) | (trace_state; fail)
      · first | exact flag_ne (by decide) f0 | exact fun _ => rfl
      · first | exact flag_ne (by decide) f1 | exact fun _ => rfl
      · intro h h7; rw [getD_set_ne false (by decide)] at h; rw [getD_set_ne true (by decide)] at h7; have := f2 h h7; first | exact this | exact owns_below this hb | (trace_state; fail)
      · first | exact flag_ne (by decide) f3 | exact fun _ => rfl
      · intro _; first | rfl | (trace_state; fail)
      · first | exact flag_ne (by decide) f5 | exact fun _ => rfl
      · first | exact flag_ne (by decide) f6 | exact fun _ => rfl
      · intro h _; rw [getD_set_ne false (by decide)] at h; exact (getD_no h0 (hC.step (j := 5) (k := 4) (hC.step (j := 6) (k := 5) (hC.step (j := 7) (k := 6) h (by kernel_rfl)) (by kernel_rfl)) (by kernel_rfl))).elim
      · intro h; rw [getD_set_ne false (by decide)] at h; exact (getD_no h0 (hC.step (j := 5) (k := 4) (hC.step (j := 6) (k := 5) (hC.step (j := 7) (k := 6) (hC.step (j := 8) (k := 7) h (by kernel_rfl)) (by kernel_rfl)) (by kernel_rfl)) (by kernel_rfl))).elim
      · intro h; rw [getD_set_ne false (by decide)] at h; exact (getD_no h0 (hC.step (j := 9) (k := 4) h (by kernel_rfl))).elim
    · refine StepAt.mk (o := { dst := some 15, op := Op.call { callee := Callee.builtin Builtin.len, args := #[Operand.tmp 14], argTypes := #[22] }, type := 3, pos := _, after := #[{ on := 4, ground := Ground.data }], guard := none }) (ws := [4]) rfl (by kernel_rfl) ?_
      intro L b v hC h0 hA h
      refine h.elim ?_; clear h; intro u4 h
      refine h.elim ?_; clear h; intro u10 h
      refine h.elim ?_; clear h; intro u11 h
      refine h.elim ?_; clear h; intro u12 h
      refine h.elim ?_; clear h; intro u13 h
      refine h.elim ?_; clear h; intro u14 h
      refine h.elim ?_; clear h; intro u15 h
      refine h.elim ?_; clear h; intro u16 h
      refine h.elim ?_; clear h; intro u17 h
      refine h.elim ?_; clear h; intro u18 h
      have hbb := h.1; replace h := h.2; subst hbb
      have hHeld := h.1; replace h := h.2
      have f0 := h.1; replace h := h.2
      have f1 := h.1; replace h := h.2
      have f2 := h.1; replace h := h.2
      have f3 := h.1; replace h := h.2
      have f4 := h.1; replace h := h.2
      have f5 := h.1; replace h := h.2
      have f6 := h.1; replace h := h.2
      have f7 := h.1; replace h := h.2
      have f8 := h.1; replace h := h.2
      have f9 := h; clear h
      intro K hK
      have g4 := f4 (hA 4 (by simp))
      obtain rfl := g4
      rw [if_pos (by kernel_rfl)]
      have q0 := cellB hHeld C0 hgp
      have q1 := cellB hHeld C1 hgp
      go_simp
      try simp only [Act.put, List.setIfInBounds_toArray, List.set_cons_zero, List.set_cons_succ]
      refine hK.out _ _ ⟨_, _, _, _, _, _, _, _, _, _, rfl, ?_, ?_, ?_, ?_, ?_, ?_, ?_, ?_, ?_, ?_, ?_⟩
      · first | exact hHeld | exact hHeld.trans (hb.mono hHeld.size) | (trace_state; fail)
      · first | exact flag_ne (by decide) f0 | exact fun _ => rfl
      · first | exact flag_ne (by decide) f1 | exact fun _ => rfl
      · intro h h7; rw [getD_set_ne false (by decide)] at h; rw [getD_set_ne true (by decide)] at h7; have := f2 h h7; first | exact this | exact owns_below this hb | (trace_state; fail)
      · first | exact flag_ne (by decide) f3 | exact fun _ => rfl
      · first | exact flag_ne (by decide) f4 | exact fun _ => rfl
      · intro _; first | rfl | (trace_state; fail)
      · first | exact flag_ne (by decide) f6 | exact fun _ => rfl
      · intro h _; rw [getD_set_ne false (by decide)] at h; exact (getD_no h0 (hC.step (j := 6) (k := 5) (hC.step (j := 7) (k := 6) h (by kernel_rfl)) (by kernel_rfl))).elim
      · intro h; rw [getD_set_ne false (by decide)] at h; exact (getD_no h0 (hC.step (j := 6) (k := 5) (hC.step (j := 7) (k := 6) (hC.step (j := 8) (k := 7) h (by kernel_rfl)) (by kernel_rfl)) (by kernel_rfl))).elim
      · intro h; rw [getD_set_ne false (by decide)] at h; exact (getD_no h0 (hC.step (j := 9) (k := 5) h (by kernel_rfl))).elim
    · refine StepAt.mk (o := { dst := some 16, op := Op.convert 3 5 (Operand.tmp 15), type := 5, pos := _, after := #[{ on := 5, ground := Ground.data }], guard := none }) (ws := [5]) rfl (by kernel_rfl) ?_
      intro L b v hC h0 hA h
      refine h.elim ?_; clear h; intro u4 h
      refine h.elim ?_; clear h; intro u10 h
      refine h.elim ?_; clear h; intro u11 h
      refine h.elim ?_; clear h; intro u12 h
      refine h.elim ?_; clear h; intro u13 h
      refine h.elim ?_; clear h; intro u14 h
      refine h.elim ?_; clear h; intro u15 h
      refine h.elim ?_; clear h; intro u16 h
      refine h.elim ?_; clear h; intro u17 h
      refine h.elim ?_; clear h; intro u18 h
      have hbb := h.1; replace h := h.2; subst hbb
      have hHeld := h.1; replace h := h.2
      have f0 := h.1; replace h := h.2
      have f1 := h.1; replace h := h.2
      have f2 := h.1; replace h := h.2
      have f3 := h.1; replace h := h.2
      have f4 := h.1; replace h := h.2
      have f5 := h.1; replace h := h.2
      have f6 := h.1; replace h := h.2
      have f7 := h.1; replace h := h.2
      have f8 := h.1; replace h := h.2
      have f9 := h; clear h
      intro K hK
      have g5 := f5 (hA 5 (by simp))
      obtain rfl := g5
      rw [if_pos (by kernel_rfl)]
      have q0 := cellB hHeld C0 hgp
      have q1 := cellB hHeld C1 hgp
      go_simp
      try simp only [Act.put, List.setIfInBounds_toArray, List.set_cons_zero, List.set_cons_succ]
      refine hK.out _ _ ⟨_, _, _, _, _, _, _, _, _, _, rfl, ?_, ?_, ?_, ?_, ?_, ?_, ?_, ?_, ?_, ?_, ?_⟩
      · first | exact hHeld | exact hHeld.trans (hb.mono hHeld.size) | (trace_state; fail)
      · first | exact flag_ne (by decide) f0 | exact fun _ => rfl
      · first | exact flag_ne (by decide) f1 | exact fun _ => rfl
      · intro h h7; rw [getD_set_ne false (by decide)] at h; rw [getD_set_ne true (by decide)] at h7; have := f2 h h7; first | exact this | exact owns_below this hb | (trace_state; fail)
      · first | exact flag_ne (by decide) f3 | exact fun _ => rfl
      · first | exact flag_ne (by decide) f4 | exact fun _ => rfl
      · first | exact flag_ne (by decide) f5 | exact fun _ => rfl
      · intro _; first | rfl | (trace_state; fail)
      · intro h _; rw [getD_set_ne false (by decide)] at h; exact (getD_no h0 (hC.step (j := 7) (k := 6) h (by kernel_rfl))).elim
      · intro h; rw [getD_set_ne false (by decide)] at h; exact (getD_no h0 (hC.step (j := 7) (k := 6) (hC.step (j := 8) (k := 7) h (by kernel_rfl)) (by kernel_rfl))).elim
      · intro h; rw [getD_set_ne false (by decide)] at h; exact (getD_no h0 (hC.step (j := 9) (k := 6) h (by kernel_rfl))).elim
    · refine StepAt.mk (o := { dst := some 17, op := Op.buildSlice 28 1 #[(0, Operand.tmp 16)], type := 28, pos := _, after := #[{ on := 6, ground := Ground.data }], guard := none }) (ws := [6]) rfl (by kernel_rfl) ?_
      intro L b v hC h0 hA h
      refine h.elim ?_; clear h; intro u4 h
      refine h.elim ?_; clear h; intro u10 h
      refine h.elim ?_; clear h; intro u11 h
      refine h.elim ?_; clear h; intro u12 h
      refine h.elim ?_; clear h; intro u13 h
      refine h.elim ?_; clear h; intro u14 h
      refine h.elim ?_; clear h; intro u15 h
      refine h.elim ?_; clear h; intro u16 h
      refine h.elim ?_; clear h; intro u17 h
      refine h.elim ?_; clear h; intro u18 h
      have hbb := h.1; replace h := h.2; subst hbb
      have hHeld := h.1; replace h := h.2
      have f0 := h.1; replace h := h.2
      have f1 := h.1; replace h := h.2
      have f2 := h.1; replace h := h.2
      have f3 := h.1; replace h := h.2
      have f4 := h.1; replace h := h.2
      have f5 := h.1; replace h := h.2
      have f6 := h.1; replace h := h.2
      have f7 := h.1; replace h := h.2
      have f8 := h.1; replace h := h.2
      have f9 := h; clear h
      intro K hK
      have g6 := f6 (hA 6 (by simp))
      obtain rfl := g6
      rw [if_pos (by kernel_rfl)]
      have q0 := cellB hHeld C0 hgp
      have q1 := cellB hHeld C1 hgp
      go_simp
      try simp only [Act.put, List.setIfInBounds_toArray, List.set_cons_zero, List.set_cons_succ]
      have hb : Below v.heap.size v (v.alloc (.cells #[.int .u8 ((n1 : Int) % 256)] 5)) := (Below.refl _ _).alloc (Nat.le_refl _) _
      refine hK.out _ _ ⟨_, _, _, _, _, _, _, _, _, _, rfl, ?_, ?_, ?_, ?_, ?_, ?_, ?_, ?_, ?_, ?_, ?_⟩
      · exact hHeld.alloc hHeld.size _
      · first | exact flag_ne (by decide) f0 | exact fun _ => rfl
      · first | exact flag_ne (by decide) f1 | exact fun _ => rfl
      · intro h h7; rw [getD_set_ne false (by decide)] at h; rw [getD_set_ne true (by decide)] at h7; have := f2 h h7; first | exact this | exact owns_below this hb | (trace_state; fail)
      · first | exact flag_ne (by decide) f3 | exact fun _ => rfl
      · first | exact flag_ne (by decide) f4 | exact fun _ => rfl
      · first | exact flag_ne (by decide) f5 | exact fun _ => rfl
      · first | exact flag_ne (by decide) f6 | exact fun _ => rfl
      · intro _ _; first | (exact ⟨_, rfl, heap_new v _⟩) | (trace_state; fail)
      · intro h; rw [getD_set_ne false (by decide)] at h; exact (getD_no h0 (hC.step (j := 8) (k := 7) h (by kernel_rfl))).elim
      · intro h; rw [getD_set_ne false (by decide)] at h; exact (getD_no h0 (hC.step (j := 9) (k := 7) h (by kernel_rfl))).elim
    · refine StepAt.mk (o := { dst := some 18, op := Op.call { callee := Callee.builtin Builtin.append, args := #[Operand.tmp 12, Operand.tmp 17], argTypes := #[28, 28] }, type := 28, pos := _, after := #[{ on := 2, ground := Ground.data }, { on := 7, ground := Ground.data }, { on := 2, ground := Ground.chain }], guard := none }) (ws := [2, 7, 2]) rfl (by kernel_rfl) ?_
      intro L b v hC h0 hA h
      refine h.elim ?_; clear h; intro u4 h
      refine h.elim ?_; clear h; intro u10 h
      refine h.elim ?_; clear h; intro u11 h
      refine h.elim ?_; clear h; intro u12 h
      refine h.elim ?_; clear h; intro u13 h
      refine h.elim ?_; clear h; intro u14 h
      refine h.elim ?_; clear h; intro u15 h
      refine h.elim ?_; clear h; intro u16 h
      refine h.elim ?_; clear h; intro u17 h
      refine h.elim ?_; clear h; intro u18 h
      have hbb := h.1; replace h := h.2; subst hbb
      have hHeld := h.1; replace h := h.2
      have f0 := h.1; replace h := h.2
      have f1 := h.1; replace h := h.2
      have f2 := h.1; replace h := h.2
      have f3 := h.1; replace h := h.2
      have f4 := h.1; replace h := h.2
      have f5 := h.1; replace h := h.2
      have f6 := h.1; replace h := h.2
      have f7 := h.1; replace h := h.2
      have f8 := h.1; replace h := h.2
      have f9 := h; clear h
      intro K hK
      have g2 := f2 (hA 2 (by simp)) h0
      have g7 := f7 (hA 7 (by simp)) h0
      obtain ⟨p7, rfl, hp7⟩ := g7
      rw [if_pos (by kernel_rfl)]
      have q0 := cellB hHeld C0 hgp
      have q1 := cellB hHeld C1 hgp
      refine wp_append_src (.tmp 12) (.tmp 17) 28 rfl W0.heap.size 5 i (.int .u8 0) 1 1 Tryd.underlying28 hi hz hsize hby rfl (by omega) _ N _ rfl g2 _ 1 [.int .u8 ((n1 : Int) % 256)] rfl (src_at hp7) rfl (by intro u hu; simp at hu; rw [hu]; rfl) (by unfold maxLen; omega) (by omega) hHeld.size ?_; intro v' w' HO hG
      try simp only [Act.put, List.setIfInBounds_toArray, List.set_cons_zero, List.set_cons_succ]
      refine hK.out _ _ ⟨_, _, _, _, _, _, _, _, _, _, rfl, ?_, ?_, ?_, ?_, ?_, ?_, ?_, ?_, ?_, ?_, ?_⟩
      · exact grown3 hHeld hHeld.size g2 hG
      · first | exact flag_ne (by decide) f0 | exact fun _ => rfl
      · first | exact flag_ne (by decide) f1 | exact fun _ => rfl
      · intro _ h7; rw [getD_set_self] at h7; cases h7
      · first | exact flag_ne (by decide) f3 | exact fun _ => rfl
      · first | exact flag_ne (by decide) f4 | exact fun _ => rfl
      · first | exact flag_ne (by decide) f5 | exact fun _ => rfl
      · first | exact flag_ne (by decide) f6 | exact fun _ => rfl
      · intro _ h7; rw [getD_set_self] at h7; cases h7
      · intro _; first | exact HO | (trace_state; fail)
      · intro h; rw [getD_set_ne false (by decide)] at h; exact (getD_no h0 (hC.step (j := 9) (k := 8) h (by kernel_rfl))).elim
    · refine StepAt.mk (o := { dst := some 4, op := Op.assign (Operand.tmp 18), type := 28, pos := _, after := #[{ on := 8, ground := Ground.data }, { on := 8, ground := Ground.chain }, { on := 0, ground := Ground.phase }, { on := 1, ground := Ground.phase }, { on := 2, ground := Ground.phase }, { on := 3, ground := Ground.phase }, { on := 4, ground := Ground.phase }, { on := 5, ground := Ground.phase }, { on := 6, ground := Ground.phase }, { on := 7, ground := Ground.phase }, { on := 8, ground := Ground.phase }], guard := none }) (ws := [8, 8, 0, 1, 2, 3, 4, 5, 6, 7, 8]) rfl (by kernel_rfl) ?_
      intro L b v hC h0 hA h
      refine h.elim ?_; clear h; intro u4 h
      refine h.elim ?_; clear h; intro u10 h
      refine h.elim ?_; clear h; intro u11 h
      refine h.elim ?_; clear h; intro u12 h
      refine h.elim ?_; clear h; intro u13 h
      refine h.elim ?_; clear h; intro u14 h
      refine h.elim ?_; clear h; intro u15 h
      refine h.elim ?_; clear h; intro u16 h
      refine h.elim ?_; clear h; intro u17 h
      refine h.elim ?_; clear h; intro u18 h
      have hbb := h.1; replace h := h.2; subst hbb
      have hHeld := h.1; replace h := h.2
      have f0 := h.1; replace h := h.2
      have f1 := h.1; replace h := h.2
      have f2 := h.1; replace h := h.2
      have f3 := h.1; replace h := h.2
      have f4 := h.1; replace h := h.2
      have f5 := h.1; replace h := h.2
      have f6 := h.1; replace h := h.2
      have f7 := h.1; replace h := h.2
      have f8 := h.1; replace h := h.2
      have f9 := h; clear h
      intro K hK
      have g8 := f8 (hA 8 (by simp))
      have g0 := f0 (hA 0 (by simp))
      obtain rfl := g0
      have g1 := f1 (hA 1 (by simp))
      obtain rfl := g1
      have g2 := f2 (hA 2 (by simp))
      have g3 := f3 (hA 3 (by simp))
      obtain rfl := g3
      have g4 := f4 (hA 4 (by simp))
      obtain rfl := g4
      have g5 := f5 (hA 5 (by simp))
      obtain rfl := g5
      have g6 := f6 (hA 6 (by simp))
      obtain rfl := g6
      have g7 := f7 (hA 7 (by simp))
      rw [if_pos (by kernel_rfl)]
      have q0 := cellB hHeld C0 hgp
      have q1 := cellB hHeld C1 hgp
      go_simp
      try simp only [Act.put, List.setIfInBounds_toArray, List.set_cons_zero, List.set_cons_succ]
      refine hK.out _ _ ⟨_, _, _, _, _, _, _, _, _, _, rfl, ?_, ?_, ?_, ?_, ?_, ?_, ?_, ?_, ?_, ?_, ?_⟩
      · first | exact hHeld | exact hHeld.trans (hb.mono hHeld.size) | (trace_state; fail)
      · first | exact flag_ne (by decide) f0 | exact fun _ => rfl
      · first | exact flag_ne (by decide) f1 | exact fun _ => rfl
      · intro _ h7; rw [getD_set_ne true (by decide)] at h7; exact (getD_no h7 (hA 8 (by simp))).elim
      · first | exact flag_ne (by decide) f3 | exact fun _ => rfl
      · first | exact flag_ne (by decide) f4 | exact fun _ => rfl
      · first | exact flag_ne (by decide) f5 | exact fun _ => rfl
      · first | exact flag_ne (by decide) f6 | exact fun _ => rfl
      · intro _ h7; rw [getD_set_ne true (by decide)] at h7; exact (getD_no h7 (hA 8 (by simp))).elim
      · intro h; rw [getD_set_ne false (by decide)] at h; have := f8 h; first | exact this | exact owns_below this hb | (trace_state; fail)
      · intro _; first | exact g8 | (trace_state; fail)
  intro L b v hA h
  refine h.elim ?_; clear h; intro u4 h
  refine h.elim ?_; clear h; intro u10 h
  refine h.elim ?_; clear h; intro u11 h
  refine h.elim ?_; clear h; intro u12 h
  refine h.elim ?_; clear h; intro u13 h
  refine h.elim ?_; clear h; intro u14 h
  refine h.elim ?_; clear h; intro u15 h
  refine h.elim ?_; clear h; intro u16 h
  refine h.elim ?_; clear h; intro u17 h
  refine h.elim ?_; clear h; intro u18 h
  have hbb := h.1; replace h := h.2; subst hbb
  have hHeld := h.1; replace h := h.2
  have f0 := h.1; replace h := h.2
  have f1 := h.1; replace h := h.2
  have f2 := h.1; replace h := h.2
  have f3 := h.1; replace h := h.2
  have f4 := h.1; replace h := h.2
  have f5 := h.1; replace h := h.2
  have f6 := h.1; replace h := h.2
  have f7 := h.1; replace h := h.2
  have f8 := h.1; replace h := h.2
  have f9 := h; clear h
  have g0 := f0 (hA 0 (by omega))
  clear f0
  obtain rfl := g0
  have g1 := f1 (hA 1 (by omega))
  clear f1
  obtain rfl := g1
  clear f2
  have g3 := f3 (hA 3 (by omega))
  clear f3
  obtain rfl := g3
  have g4 := f4 (hA 4 (by omega))
  clear f4
  obtain rfl := g4
  have g5 := f5 (hA 5 (by omega))
  clear f5
  obtain rfl := g5
  have g6 := f6 (hA 6 (by omega))
  clear f6
  obtain rfl := g6
  clear f7
  have g8 := f8 (hA 8 (by omega))
  clear f8
  have g9 := f9 (hA 9 (by omega))
  clear f9
  clear hA
  exact ⟨rfl, _, _, _, _, _, _, _, _, _, _, rfl, hHeld, g9⟩
set_option maxHeartbeats 4000000 in
theorem unitPut_r6 (W0 : World) (gp : Nat) (r0 : Value) (sb : Option Addr) (n2 cb N : Nat) (E M : List UInt8) (hgp : gp < W0.heap.size) (C3 : W0.cell? ⟨gp, 3, none⟩ = some (.slice sb n2 cb)) (hn : N ≤ 5000) (hn2 : n2 ≤ 5000) (hE : E.length = N) (HP : Hid (∀ W : World, Below W0.heap.size W0 W → Calls Tryd.prog 20 #[r0, .int .i64 2, .int .i64 n2] W fun e w' => ∃ r, e = .returned r ∧ w'.ownsRow W.heap.size 5 1 r (N + 2) (bytesV (E ++ putL 2 n2)) ∧ Below W.heap.size W w')) (HM : Hid (∀ W : World, Below W0.heap.size W0 W → Calls Tryd.prog 19 #[.slice sb n2 cb] W fun e w' => ∃ r, e = .returned r ∧ w'.ownsRow W.heap.size 5 1 r n2 (bytesV M) ∧ Below W.heap.size W w')) (i : TypeInfo) (hi : Tryd.prog.info? 5 = some i) (hz : i.zero = some (.int .u8 0)) (hsize : i.size = 1) (hby : i.bytes = 1) (t0 t2 t3 t5 t6 t7 t8 t9 t10 t11 t12 t13 t14 t15 t16 t17 t18 t19 t20 t21 t22 t23 t24 t25 t26 t27 t28 t29 t30 t31 t32 t33 t34 t35 t36 t37 t38 t39 t40 t41 t42 t43 t44 t45 t46 t47 t48 t49 t50 t51 : Value) :
    (Code.region 6 #[{ dst := some 30, op := Op.move (Operand.tmp 4), type := 28, pos := "unit.go:75", after := #[], guard := none }, { dst := some 31, op := Op.fieldAddr 25 (Operand.tmp 1) 3, type := 0, pos := "unit.go:75", after := #[], guard := none }, { dst := some 32, op := Op.load 22 (Operand.tmp 31), type := 22, pos := "unit.go:75", after := #[{ on := 1, ground := Ground.data }], guard := none }, { dst := some 33, op := Op.call { callee := Callee.builtin Builtin.len, args := #[Operand.tmp 32], argTypes := #[22] }, type := 3, pos := "unit.go:75", after := #[{ on := 2, ground := Ground.data }], guard := none }, { dst := some 34, op := Op.call { callee := Callee.value (Operand.func 20), args := #[Operand.tmp 30, Operand.const (Value.int IntKind.i64 2), Operand.tmp 33], argTypes := #[28, 3, 3] }, type := 28, pos := "unit.go:75", after := #[{ on := 0, ground := Ground.data }, { on := 3, ground := Ground.data }], guard := none }, { dst := some 35, op := Op.fieldAddr 25 (Operand.tmp 1) 3, type := 0, pos := "unit.go:75", after := #[], guard := none }, { dst := some 36, op := Op.load 22 (Operand.tmp 35), type := 22, pos := "unit.go:75", after := #[{ on := 5, ground := Ground.data }], guard := none }, { dst := some 37, op := Op.call { callee := Callee.value (Operand.func 19), args := #[Operand.tmp 36], argTypes := #[22] }, type := 28, pos := "unit.go:75", after := #[{ on := 6, ground := Ground.data }, { on := 4, ground := Ground.chain }], guard := none }, { dst := some 38, op := Op.call { callee := Callee.builtin Builtin.append, args := #[Operand.tmp 34, Operand.tmp 37], argTypes := #[28, 28] }, type := 28, pos := "unit.go:75", after := #[{ on := 4, ground := Ground.data }, { on := 7, ground := Ground.data }, { on := 7, ground := Ground.chain }], guard := none }, { dst := some 4, op := Op.assign (Operand.tmp 38), type := 28, pos := "unit.go:75", after := #[{ on := 8, ground := Ground.data }, { on := 8, ground := Ground.chain }, { on := 0, ground := Ground.phase }, { on := 1, ground := Ground.phase }, { on := 2, ground := Ground.phase }, { on := 3, ground := Ground.phase }, { on := 4, ground := Ground.phase }, { on := 5, ground := Ground.phase }, { on := 6, ground := Ground.phase }, { on := 7, ground := Ground.phase }, { on := 8, ground := Ground.phase }], guard := none }] true).wp Tryd.prog (fun e b v => e = Exit.normal ∧ ∃ u4 u30 u31 u32 u33 u34 u35 u36 u37 u38 : Value, b = ⟨#[t0, .pointer (some ⟨gp, 0, none⟩), t2, t3, u4, t5, t6, t7, t8, t9, t10, t11, t12, t13, t14, t15, t16, t17, t18, t19, t20, t21, t22, t23, t24, t25, t26, t27, t28, t29, u30, u31, u32, u33, u34, u35, u36, u37, u38, t39, t40, t41, t42, t43, t44, t45, t46, t47, t48, t49, t50, t51], []⟩ ∧ Below W0.heap.size W0 v ∧ (v.ownsRow W0.heap.size 5 1 u4 (N + 2 + n2) (bytesV (E ++ putL 2 n2) ++ bytesV M))) ⟨#[t0, .pointer (some ⟨gp, 0, none⟩), t2, t3, r0, t5, t6, t7, t8, t9, t10, t11, t12, t13, t14, t15, t16, t17, t18, t19, t20, t21, t22, t23, t24, t25, t26, t27, t28, t29, t30, t31, t32, t33, t34, t35, t36, t37, t38, t39, t40, t41, t42, t43, t44, t45, t46, t47, t48, t49, t50, t51], []⟩ W0 := by
  refine wp_region_facts (n := 10) (fun L b v => ∃ u4 u30 u31 u32 u33 u34 u35 u36 u37 u38 : Value, b = ⟨#[t0, .pointer (some ⟨gp, 0, none⟩), t2, t3, u4, t5, t6, t7, t8, t9, t10, t11, t12, t13, t14, t15, t16, t17, t18, t19, t20, t21, t22, t23, t24, t25, t26, t27, t28, t29, u30, u31, u32, u33, u34, u35, u36, u37, u38, t39, t40, t41, t42, t43, t44, t45, t46, t47, t48, t49, t50, t51], []⟩ ∧ Below W0.heap.size W0 v ∧ (L.getD 0 false = true → u30 = r0) ∧ (L.getD 1 false = true → u31 = .pointer (some ⟨gp, 3, none⟩)) ∧ (L.getD 2 false = true → u32 = .slice sb n2 cb) ∧ (L.getD 3 false = true → u33 = .int .i64 n2) ∧ (L.getD 4 false = true → L.getD 8 true = false → v.ownsRow W0.heap.size 5 1 u34 (N + 2) (bytesV (E ++ putL 2 n2))) ∧ (L.getD 5 false = true → u35 = .pointer (some ⟨gp, 3, none⟩)) ∧ (L.getD 6 false = true → u36 = .slice sb n2 cb) ∧ (L.getD 7 false = true → L.getD 8 true = false → v.ownsRow W0.heap.size 5 1 u37 n2 (bytesV M)) ∧ (L.getD 8 false = true → v.ownsRow W0.heap.size 5 1 u38 (N + 2 + n2) (bytesV (E ++ putL 2 n2) ++ bytesV M)) ∧ (L.getD 9 false = true → v.ownsRow W0.heap.size 5 1 u4 (N + 2 + n2) (bytesV (E ++ putL 2 n2) ++ bytesV M)) ∧ (L.getD 9 false = false → u4 = r0)) (by kernel_rfl) (by kernel_rfl) (by kernel_rfl) ?_ ?_ ?_
  · refine ⟨_, _, _, _, _, _, _, _, _, _, rfl, (Below.refl _ _).drew, flag_new, flag_new, flag_new, flag_new, flag_new, flag_new, flag_new, flag_new, flag_new, flag_new, fun _ => (by first | rfl | assumption)⟩
  · refine AllSteps.succ (AllSteps.succ (AllSteps.succ (AllSteps.succ (AllSteps.succ (AllSteps.succ (AllSteps.succ (AllSteps.succ (AllSteps.succ (AllSteps.succ AllSteps.zero ?_) ?_) ?_) ?_) ?_) ?_) ?_) ?_) ?_) ?_
    · refine StepAt.mk (o := { dst := some 30, op := Op.move (Operand.tmp 4), type := 28, pos := _, after := #[], guard := none }) (ws := []) rfl (by kernel_rfl) ?_
      intro L b v hC h0 hA h
      refine h.elim ?_; clear h; intro u4 h
      refine h.elim ?_; clear h; intro u30 h
      refine h.elim ?_; clear h; intro u31 h
      refine h.elim ?_; clear h; intro u32 h
      refine h.elim ?_; clear h; intro u33 h
      refine h.elim ?_; clear h; intro u34 h
      refine h.elim ?_; clear h; intro u35 h
      refine h.elim ?_; clear h; intro u36 h
      refine h.elim ?_; clear h; intro u37 h
      refine h.elim ?_; clear h; intro u38 h
      have hbb := h.1; replace h := h.2; subst hbb
      have hHeld := h.1; replace h := h.2
      have f0 := h.1; replace h := h.2
      have f1 := h.1; replace h := h.2
      have f2 := h.1; replace h := h.2
      have f3 := h.1; replace h := h.2
      have f4 := h.1; replace h := h.2
      have f5 := h.1; replace h := h.2
      have f6 := h.1; replace h := h.2
      have f7 := h.1; replace h := h.2
      have f8 := h.1; replace h := h.2
      have f9 := h.1; replace h := h.2
      have er := h; clear h
      intro K hK
      have dr := er (Bool.eq_false_iff.2 (fun h => getD_no h0 (hC.step (j := 9) (k := 0) h (by kernel_rfl))))
      obtain rfl := dr
      rw [if_pos (by kernel_rfl)]
      have q0 := cellB hHeld C3 hgp
      go_simp
      try simp only [Act.put, List.setIfInBounds_toArray, List.set_cons_zero, List.set_cons_succ]
      refine hK.out _ _ ⟨_, _, _, _, _, _, _, _, _, _, rfl, ?_, ?_, ?_, ?_, ?_, ?_, ?_, ?_, ?_, ?_, ?_, ?_⟩
      · first | exact hHeld | exact hHeld.trans (hb.mono hHeld.size) | (trace_state; fail)
      · intro _; first | rfl | (trace_state; fail)
      · first | exact flag_ne (by decide) f1 | exact fun _ => rfl
      · first | exact flag_ne (by decide) f2 | exact fun _ => rfl
      · first | exact flag_ne (by decide) f3 | exact fun _ => rfl
      · intro h _; rw [getD_set_ne false (by decide)] at h; exact (getD_no h0 (hC.step (j := 4) (k := 0) h (by kernel_rfl))).elim
      · first | exact flag_ne (by decide) f5 | exact fun _ => rfl
      · first | exact flag_ne (by decide) f6 | exact fun _ => rfl
      · intro h _; rw [getD_set_ne false (by decide)] at h; exact (getD_no h0 (hC.step (j := 4) (k := 0) (hC.step (j := 7) (k := 4) h (by kernel_rfl)) (by kernel_rfl))).elim
      · intro h; rw [getD_set_ne false (by decide)] at h; exact (getD_no h0 (hC.step (j := 4) (k := 0) (hC.step (j := 8) (k := 4) h (by kernel_rfl)) (by kernel_rfl))).elim
      · intro h; rw [getD_set_ne false (by decide)] at h; exact (getD_no h0 (hC.step (j := 9) (k := 0) h (by kernel_rfl))).elim
      · intro h; first | rfl | (rw [getD_set_ne false (by decide)] at h; have := er h; first | exact this | exact owns_below this hb | (trace_state; fail))
    · refine StepAt.mk (o := { dst := some 31, op := Op.fieldAddr 25 (Operand.tmp 1) 3, type := 0, pos := _, after := #[], guard := none }) (ws := []) rfl (by kernel_rfl) ?_
      intro L b v hC h0 hA h
      refine h.elim ?_; clear h; intro u4 h
      refine h.elim ?_; clear h; intro u30 h
      refine h.elim ?_; clear h; intro u31 h
      refine h.elim ?_; clear h; intro u32 h
      refine h.elim ?_; clear h; intro u33 h
      refine h.elim ?_; clear h; intro u34 h
      refine h.elim ?_; clear h; intro u35 h
      refine h.elim ?_; clear h; intro u36 h
      refine h.elim ?_; clear h; intro u37 h
      refine h.elim ?_; clear h; intro u38 h
      have hbb := h.1; replace h := h.2; subst hbb
      have hHeld := h.1; replace h := h.2
      have f0 := h.1; replace h := h.2
      have f1 := h.1; replace h := h.2
      have f2 := h.1; replace h := h.2
      have f3 := h.1; replace h := h.2
      have f4 := h.1; replace h := h.2
      have f5 := h.1; replace h := h.2
      have f6 := h.1; replace h := h.2
      have f7 := h.1; replace h := h.2
      have f8 := h.1; replace h := h.2
      have f9 := h.1; replace h := h.2
      have er := h; clear h
      intro K hK
      rw [if_pos (by kernel_rfl)]
      have q0 := cellB hHeld C3 hgp
      go_simp
      try simp only [Act.put, List.setIfInBounds_toArray, List.set_cons_zero, List.set_cons_succ]
      refine hK.out _ _ ⟨_, _, _, _, _, _, _, _, _, _, rfl, ?_, ?_, ?_, ?_, ?_, ?_, ?_, ?_, ?_, ?_, ?_, ?_⟩
      · first | exact hHeld | exact hHeld.trans (hb.mono hHeld.size) | (trace_state; fail)
      · first | exact flag_ne (by decide) f0 | exact fun _ => rfl
      · intro _; first | rfl | (trace_state; fail)
      · first | exact flag_ne (by decide) f2 | exact fun _ => rfl
      · first | exact flag_ne (by decide) f3 | exact fun _ => rfl
      · intro h _; rw [getD_set_ne false (by decide)] at h; exact (getD_no h0 (hC.step (j := 2) (k := 1) (hC.step (j := 3) (k := 2) (hC.step (j := 4) (k := 3) h (by kernel_rfl)) (by kernel_rfl)) (by kernel_rfl))).elim
      · first | exact flag_ne (by decide) f5 | exact fun _ => rfl
      · first | exact flag_ne (by decide) f6 | exact fun _ => rfl
      · intro h _; rw [getD_set_ne false (by decide)] at h; exact (getD_no h0 (hC.step (j := 2) (k := 1) (hC.step (j := 3) (k := 2) (hC.step (j := 4) (k := 3) (hC.step (j := 7) (k := 4) h (by kernel_rfl)) (by kernel_rfl)) (by kernel_rfl)) (by kernel_rfl))).elim
      · intro h; rw [getD_set_ne false (by decide)] at h; exact (getD_no h0 (hC.step (j := 2) (k := 1) (hC.step (j := 3) (k := 2) (hC.step (j := 4) (k := 3) (hC.step (j := 8) (k := 4) h (by kernel_rfl)) (by kernel_rfl)) (by kernel_rfl)) (by kernel_rfl))).elim
      · intro h; rw [getD_set_ne false (by decide)] at h; exact (getD_no h0 (hC.step (j := 9) (k := 1) h (by kernel_rfl))).elim
      · intro h; rw [getD_set_ne false (by decide)] at h; have := er h; first | exact this | exact owns_below this hb | (trace_state; fail)
    · refine StepAt.mk (o := { dst := some 32, op := Op.load 22 (Operand.tmp 31), type := 22, pos := _, after := #[{ on := 1, ground := Ground.data }], guard := none }) (ws := [1]) rfl (by kernel_rfl) ?_
      intro L b v hC h0 hA h
      refine h.elim ?_; clear h; intro u4 h
      refine h.elim ?_; clear h; intro u30 h
      refine h.elim ?_; clear h; intro u31 h
      refine h.elim ?_; clear h; intro u32 h
      refine h.elim ?_; clear h; intro u33 h
      refine h.elim ?_; clear h; intro u34 h
      refine h.elim ?_; clear h; intro u35 h
      refine h.elim ?_; clear h; intro u36 h
      refine h.elim ?_; clear h; intro u37 h
      refine h.elim ?_; clear h; intro u38 h
      have hbb := h.1; replace h := h.2; subst hbb
      have hHeld := h.1; replace h := h.2
      have f0 := h.1; replace h := h.2
      have f1 := h.1; replace h := h.2
      have f2 := h.1; replace h := h.2
      have f3 := h.1; replace h := h.2
      have f4 := h.1; replace h := h.2
      have f5 := h.1; replace h := h.2
      have f6 := h.1; replace h := h.2
      have f7 := h.1; replace h := h.2
      have f8 := h.1; replace h := h.2
      have f9 := h.1; replace h := h.2
      have er := h; clear h
      intro K hK
      have g1 := f1 (hA 1 (by simp))
      obtain rfl := g1
      rw [if_pos (by kernel_rfl)]
      have q0 := cellB hHeld C3 hgp
      go_simp
      try simp only [Act.put, List.setIfInBounds_toArray, List.set_cons_zero, List.set_cons_succ]
      refine hK.out _ _ ⟨_, _, _, _, _, _, _, _, _, _, rfl, ?_, ?_, ?_, ?_, ?_, ?_, ?_, ?_, ?_, ?_, ?_, ?_⟩
      · first | exact hHeld | exact hHeld.trans (hb.mono hHeld.size) | (trace_state; fail)
      · first | exact flag_ne (by decide) f0 | exact fun _ => rfl
      · first | exact flag_ne (by decide) f1 | exact fun _ => rfl
      · intro _; first | rfl | (trace_state; fail)
      · first | exact flag_ne (by decide) f3 | exact fun _ => rfl
      · intro h _; rw [getD_set_ne false (by decide)] at h; exact (getD_no h0 (hC.step (j := 3) (k := 2) (hC.step (j := 4) (k := 3) h (by kernel_rfl)) (by kernel_rfl))).elim
      · first | exact flag_ne (by decide) f5 | exact fun _ => rfl
      · first | exact flag_ne (by decide) f6 | exact fun _ => rfl
      · intro h _; rw [getD_set_ne false (by decide)] at h; exact (getD_no h0 (hC.step (j := 3) (k := 2) (hC.step (j := 4) (k := 3) (hC.step (j := 7) (k := 4) h (by kernel_rfl)) (by kernel_rfl)) (by kernel_rfl))).elim
      · intro h; rw [getD_set_ne false (by decide)] at h; exact (getD_no h0 (hC.step (j := 3) (k := 2) (hC.step (j := 4) (k := 3) (hC.step (j := 8) (k := 4) h (by kernel_rfl)) (by kernel_rfl)) (by kernel_rfl))).elim
      · intro h; rw [getD_set_ne false (by decide)] at h; exact (getD_no h0 (hC.step (j := 9) (k := 2) h (by kernel_rfl))).elim
      · intro h; rw [getD_set_ne false (by decide)] at h; have := er h; first | exact this | exact owns_below this hb | (trace_state; fail)
    · refine StepAt.mk (o := { dst := some 33, op := Op.call { callee := Callee.builtin Builtin.len, args := #[Operand.tmp 32], argTypes := #[22] }, type := 3, pos := _, after := #[{ on := 2, ground := Ground.data }], guard := none }) (ws := [2]) rfl (by kernel_rfl) ?_
      intro L b v hC h0 hA h
      refine h.elim ?_; clear h; intro u4 h
      refine h.elim ?_; clear h; intro u30 h
      refine h.elim ?_; clear h; intro u31 h
      refine h.elim ?_; clear h; intro u32 h
      refine h.elim ?_; clear h; intro u33 h
      refine h.elim ?_; clear h; intro u34 h
      refine h.elim ?_; clear h; intro u35 h
      refine h.elim ?_; clear h; intro u36 h
      refine h.elim ?_; clear h; intro u37 h
      refine h.elim ?_; clear h; intro u38 h
      have hbb := h.1; replace h := h.2; subst hbb
      have hHeld := h.1; replace h := h.2
      have f0 := h.1; replace h := h.2
      have f1 := h.1; replace h := h.2
      have f2 := h.1; replace h := h.2
      have f3 := h.1; replace h := h.2
      have f4 := h.1; replace h := h.2
      have f5 := h.1; replace h := h.2
      have f6 := h.1; replace h := h.2
      have f7 := h.1; replace h := h.2
      have f8 := h.1; replace h := h.2
      have f9 := h.1; replace h := h.2
      have er := h; clear h
      intro K hK
      have g2 := f2 (hA 2 (by simp))
      obtain rfl := g2
      rw [if_pos (by kernel_rfl)]
      have q0 := cellB hHeld C3 hgp
      go_simp
      try simp only [Act.put, List.setIfInBounds_toArray, List.set_cons_zero, List.set_cons_succ]
      refine hK.out _ _ ⟨_, _, _, _, _, _, _, _, _, _, rfl, ?_, ?_, ?_, ?_, ?_, ?_, ?_, ?_, ?_, ?_, ?_, ?_⟩
      · first | exact hHeld | exact hHeld.trans (hb.mono hHeld.size) | (trace_state; fail)
      · first | exact flag_ne (by decide) f0 | exact fun _ => rfl
      · first | exact flag_ne (by decide) f1 | exact fun _ => rfl
      · first | exact flag_ne (by decide) f2 | exact fun _ => rfl
      · intro _; first | rfl | (trace_state; fail)
      · intro h _; rw [getD_set_ne false (by decide)] at h; exact (getD_no h0 (hC.step (j := 4) (k := 3) h (by kernel_rfl))).elim
      · first | exact flag_ne (by decide) f5 | exact fun _ => rfl
      · first | exact flag_ne (by decide) f6 | exact fun _ => rfl
      · intro h _; rw [getD_set_ne false (by decide)] at h; exact (getD_no h0 (hC.step (j := 4) (k := 3) (hC.step (j := 7) (k := 4) h (by kernel_rfl)) (by kernel_rfl))).elim
      · intro h; rw [getD_set_ne false (by decide)] at h; exact (getD_no h0 (hC.step (j := 4) (k := 3) (hC.step (j := 8) (k := 4) h (by kernel_rfl)) (by kernel_rfl))).elim
      · intro h; rw [getD_set_ne false (by decide)] at h; exact (getD_no h0 (hC.step (j := 9) (k := 3) h (by kernel_rfl))).elim
      · intro h; rw [getD_set_ne false (by decide)] at h; have := er h; first | exact this | exact owns_below this hb | (trace_state; fail)
    · refine StepAt.mk (o := { dst := some 34, op := Op.call { callee := Callee.value (Operand.func 20), args := #[Operand.tmp 30, Operand.const (Value.int IntKind.i64 2), Operand.tmp 33], argTypes := #[28, 3, 3] }, type := 28, pos := _, after := #[{ on := 0, ground := Ground.data }, { on := 3, ground := Ground.data }], guard := none }) (ws := [0, 3]) rfl (by kernel_rfl) ?_
      intro L b v hC h0 hA h
      refine h.elim ?_; clear h; intro u4 h
      refine h.elim ?_; clear h; intro u30 h
      refine h.elim ?_; clear h; intro u31 h
      refine h.elim ?_; clear h; intro u32 h
      refine h.elim ?_; clear h; intro u33 h
      refine h.elim ?_; clear h; intro u34 h
      refine h.elim ?_; clear h; intro u35 h
      refine h.elim ?_; clear h; intro u36 h
      refine h.elim ?_; clear h; intro u37 h
      refine h.elim ?_; clear h; intro u38 h
      have hbb := h.1; replace h := h.2; subst hbb
      have hHeld := h.1; replace h := h.2
      have f0 := h.1; replace h := h.2
      have f1 := h.1; replace h := h.2
      have f2 := h.1; replace h := h.2
      have f3 := h.1; replace h := h.2
      have f4 := h.1; replace h := h.2
      have f5 := h.1; replace h := h.2
      have f6 := h.1; replace h := h.2
      have f7 := h.1; replace h := h.2
      have f8 := h.1; replace h := h.2
      have f9 := h.1; replace h := h.2
      have er := h; clear h
      intro K hK
      have g0 := f0 (hA 0 (by simp))
      have g3 := f3 (hA 3 (by simp))
      obtain rfl := g3
      rw [if_pos (by kernel_rfl)]
      have q0 := cellB hHeld C3 hgp
      go_simp
      refine (HP.out v hHeld).mono ?_; rintro e v1 ⟨r, rfl, HO, hb⟩
      go_wp2_with fail
      try simp only [Act.put, List.setIfInBounds_toArray, List.set_cons_zero, List.set_cons_succ]
      refine hK.out _ _ ⟨_, _, _, _, _, _, _, _, _, _, rfl, ?_, ?_, ?_, ?_, ?_, ?_, ?_, ?_, ?_, ?_, ?_, ?_⟩
      · first | exact hHeld | exact hHeld.trans (hb.mono hHeld.size) | (trace_state; fail)
      · first | exact flag_ne (by decide) f0 | exact fun _ => rfl
      · first | exact flag_ne (by decide) f1 | exact fun _ => rfl
      · first | exact flag_ne (by decide) f2 | exact fun _ => rfl
      · first | exact flag_ne (by decide) f3 | exact fun _ => rfl
      · intro _ _; first | (exact own_low HO hHeld.size) | (trace_state; fail)
      · first | exact flag_ne (by decide) f5 | exact fun _ => rfl
      · first | exact flag_ne (by decide) f6 | exact fun _ => rfl
      · intro h _; rw [getD_set_ne false (by decide)] at h; exact (getD_no h0 (hC.step (j := 7) (k := 4) h (by kernel_rfl))).elim
      · intro h; rw [getD_set_ne false (by decide)] at h; exact (getD_no h0 (hC.step (j := 8) (k := 4) h (by kernel_rfl))).elim
      · intro h; rw [getD_set_ne false (by decide)] at h; exact (getD_no h0 (hC.step (j := 9) (k := 4) h (by kernel_rfl))).elim
      · intro h; rw [getD_set_ne false (by decide)] at h; have := er h; first | exact this | exact owns_below this hb | (trace_state; fail)
    · refine StepAt.mk (o := { dst := some 35, op := Op.fieldAddr 25 (Operand.tmp 1) 3, type := 0, pos := _, after := #[], guard := none }) (ws := []) rfl (by kernel_rfl) ?_
      intro L b v hC h0 hA h
      refine h.elim ?_; clear h; intro u4 h
      refine h.elim ?_; clear h; intro u30 h
      refine h.elim ?_; clear h; intro u31 h
      refine h.elim ?_; clear h; intro u32 h
      refine h.elim ?_; clear h; intro u33 h
      refine h.elim ?_; clear h; intro u34 h
      refine h.elim ?_; clear h; intro u35 h
      refine h.elim ?_; clear h; intro u36 h
      refine h.elim ?_; clear h; intro u37 h
      refine h.elim ?_; clear h; intro u38 h
      have hbb := h.1; replace h := h.2; subst hbb
      have hHeld := h.1; replace h := h.2
      have f0 := h.1; replace h := h.2
      have f1 := h.1; replace h := h.2
      have f2 := h.1; replace h := h.2
      have f3 := h.1; replace h := h.2
      have f4 := h.1; replace h := h.2
      have f5 := h.1; replace h := h.2
      have f6 := h.1; replace h := h.2
      have f7 := h.1; replace h := h.2
      have f8 := h.1; replace h := h.2
      have f9 := h.1; replace h := h.2
      have er := h; clear h
      intro K hK
      rw [if_pos (by kernel_rfl)]
      have q0 := cellB hHeld C3 hgp
      go_simp
      try simp only [Act.put, List.setIfInBounds_toArray, List.set_cons_zero, List.set_cons_succ]
      refine hK.out _ _ ⟨_, _, _, _, _, _, _, _, _, _, rfl, ?_, ?_, ?_, ?_, ?_, ?_, ?_, ?_, ?_, ?_, ?_, ?_⟩
      · first | exact hHeld | exact hHeld.trans (hb.mono hHeld.size) | (trace_state; fail)
      · first | exact flag_ne (by decide) f0 | exact fun _ => rfl
      · first | exact flag_ne (by decide) f1 | exact fun _ => rfl
      · first | exact flag_ne (by decide) f2 | exact fun _ => rfl
      · first | exact flag_ne (by decide) f3 | exact fun _ => rfl
      · intro h h7; rw [getD_set_ne false (by decide)] at h; rw [getD_set_ne true (by decide)] at h7; have := f4 h h7; first | exact this | exact owns_below this hb | (trace_state; fail)
      · intro _; first | rfl | (trace_state; fail)
      · first | exact flag_ne (by decide) f6 | exact fun _ => rfl
      · intro h _; rw [getD_set_ne false (by decide)] at h; exact (getD_no h0 (hC.step (j := 6) (k := 5) (hC.step (j := 7) (k := 6) h (by kernel_rfl)) (by kernel_rfl))).elim
      · intro h; rw [getD_set_ne false (by decide)] at h; exact (getD_no h0 (hC.step (j := 6) (k := 5) (hC.step (j := 7) (k := 6) (hC.step (j := 8) (k := 7) h (by kernel_rfl)) (by kernel_rfl)) (by kernel_rfl))).elim
      · intro h; rw [getD_set_ne false (by decide)] at h; exact (getD_no h0 (hC.step (j := 9) (k := 5) h (by kernel_rfl))).elim
      · intro h; rw [getD_set_ne false (by decide)] at h; have := er h; first | exact this | exact owns_below this hb | (trace_state; fail)
    · refine StepAt.mk (o := { dst := some 36, op := Op.load 22 (Operand.tmp 35), type := 22, pos := _, after := #[{ on := 5, ground := Ground.data }], guard := none }) (ws := [5]) rfl (by kernel_rfl) ?_
      intro L b v hC h0 hA h
      refine h.elim ?_; clear h; intro u4 h
      refine h.elim ?_; clear h; intro u30 h
      refine h.elim ?_; clear h; intro u31 h
      refine h.elim ?_; clear h; intro u32 h
      refine h.elim ?_; clear h; intro u33 h
      refine h.elim ?_; clear h; intro u34 h
      refine h.elim ?_; clear h; intro u35 h
      refine h.elim ?_; clear h; intro u36 h
      refine h.elim ?_; clear h; intro u37 h
      refine h.elim ?_; clear h; intro u38 h
      have hbb := h.1; replace h := h.2; subst hbb
      have hHeld := h.1; replace h := h.2
      have f0 := h.1; replace h := h.2
      have f1 := h.1; replace h := h.2
      have f2 := h.1; replace h := h.2
      have f3 := h.1; replace h := h.2
      have f4 := h.1; replace h := h.2
      have f5 := h.1; replace h := h.2
      have f6 := h.1; replace h := h.2
      have f7 := h.1; replace h := h.2
      have f8 := h.1; replace h := h.2
      have f9 := h.1; replace h := h.2
      have er := h; clear h
      intro K hK
      have g5 := f5 (hA 5 (by simp))
      obtain rfl := g5
      rw [if_pos (by kernel_rfl)]
      have q0 := cellB hHeld C3 hgp
      go_simp
      try simp only [Act.put, List.setIfInBounds_toArray, List.set_cons_zero, List.set_cons_succ]
      refine hK.out _ _ ⟨_, _, _, _, _, _, _, _, _, _, rfl, ?_, ?_, ?_, ?_, ?_, ?_, ?_, ?_, ?_, ?_, ?_, ?_⟩
      · first | exact hHeld | exact hHeld.trans (hb.mono hHeld.size) | (trace_state; fail)
      · first | exact flag_ne (by decide) f0 | exact fun _ => rfl
      · first | exact flag_ne (by decide) f1 | exact fun _ => rfl
      · first | exact flag_ne (by decide) f2 | exact fun _ => rfl
      · first | exact flag_ne (by decide) f3 | exact fun _ => rfl
      · intro h h7; rw [getD_set_ne false (by decide)] at h; rw [getD_set_ne true (by decide)] at h7; have := f4 h h7; first | exact this | exact owns_below this hb | (trace_state; fail)
      · first | exact flag_ne (by decide) f5 | exact fun _ => rfl
      · intro _; first | rfl | (trace_state; fail)
      · intro h _; rw [getD_set_ne false (by decide)] at h; exact (getD_no h0 (hC.step (j := 7) (k := 6) h (by kernel_rfl))).elim
      · intro h; rw [getD_set_ne false (by decide)] at h; exact (getD_no h0 (hC.step (j := 7) (k := 6) (hC.step (j := 8) (k := 7) h (by kernel_rfl)) (by kernel_rfl))).elim
      · intro h; rw [getD_set_ne false (by decide)] at h; exact (getD_no h0 (hC.step (j := 9) (k := 6) h (by kernel_rfl))).elim
      · intro h; rw [getD_set_ne false (by decide)] at h; have := er h; first | exact this | exact owns_below this hb | (trace_state; fail)
    · refine StepAt.mk (o := { dst := some 37, op := Op.call { callee := Callee.value (Operand.func 19), args := #[Operand.tmp 36], argTypes := #[22] }, type := 28, pos := _, after := #[{ on := 6, ground := Ground.data }, { on := 4, ground := Ground.chain }], guard := none }) (ws := [6, 4]) rfl (by kernel_rfl) ?_
      intro L b v hC h0 hA h
      refine h.elim ?_; clear h; intro u4 h
      refine h.elim ?_; clear h; intro u30 h
      refine h.elim ?_; clear h; intro u31 h
      refine h.elim ?_; clear h; intro u32 h
      refine h.elim ?_; clear h; intro u33 h
      refine h.elim ?_; clear h; intro u34 h
      refine h.elim ?_; clear h; intro u35 h
      refine h.elim ?_; clear h; intro u36 h
      refine h.elim ?_; clear h; intro u37 h
      refine h.elim ?_; clear h; intro u38 h
      have hbb := h.1; replace h := h.2; subst hbb
      have hHeld := h.1; replace h := h.2
      have f0 := h.1; replace h := h.2
      have f1 := h.1; replace h := h.2
      have f2 := h.1; replace h := h.2
      have f3 := h.1; replace h := h.2
      have f4 := h.1; replace h := h.2
      have f5 := h.1; replace h := h.2
      have f6 := h.1; replace h := h.2
      have f7 := h.1; replace h := h.2
      have f8 := h.1; replace h := h.2
      have f9 := h.1; replace h := h.2
      have er := h; clear h
      intro K hK
      have g6 := f6 (hA 6 (by simp))
      obtain rfl := g6
      have g4 := f4 (hA 4 (by simp))
      rw [if_pos (by kernel_rfl)]
      have q0 := cellB hHeld C3 hgp
      go_simp
      refine (HM.out v hHeld).mono ?_; rintro e v1 ⟨r, rfl, HO, hb⟩
      go_wp2_with fail
      try simp only [Act.put, List.setIfInBounds_toArray, List.set_cons_zero, List.set_cons_succ]
      refine hK.out _ _ ⟨_, _, _, _, _, _, _, _, _, _, rfl, ?_, ?_, ?_, ?_, ?_, ?_, ?_, ?_, ?_, ?_, ?_, ?_⟩
      · first | exact hHeld | exact hHeld.trans (hb.mono hHeld.size) | (trace_state; fail)
      · first | exact flag_ne (by decide) f0 | exact fun _ => rfl
      · first | exact flag_ne (by decide) f1 | exact fun _ => rfl
      · first | exact flag_ne (by decide) f2 | exact fun _ => rfl
      · first | exact flag_ne (by decide) f3 | exact fun _ => rfl
      · intro h h7; rw [getD_set_ne false (by decide)] at h; rw [getD_set_ne true (by decide)] at h7; have := f4 h h7; first | exact this | exact owns_below this hb | (trace_state; fail)
      · first | exact flag_ne (by decide) f5 | exact fun _ => rfl
      · first | exact flag_ne (by decide) f6 | exact fun _ => rfl
      · intro _ _; first | (exact own_low HO hHeld.size) | (trace_state; fail)
      · intro h; rw [getD_set_ne false (by decide)] at h; exact (getD_no h0 (hC.step (j := 8) (k := 7) h (by kernel_rfl))).elim
      · intro h; rw [getD_set_ne false (by decide)] at h; exact (getD_no h0 (hC.step (j := 9) (k := 7) h (by kernel_rfl))).elim
      · intro h; rw [getD_set_ne false (by decide)] at h; have := er h; first | exact this | exact owns_below this hb | (trace_state; fail)
    · refine StepAt.mk (o := { dst := some 38, op := Op.call { callee := Callee.builtin Builtin.append, args := #[Operand.tmp 34, Operand.tmp 37], argTypes := #[28, 28] }, type := 28, pos := _, after := #[{ on := 4, ground := Ground.data }, { on := 7, ground := Ground.data }, { on := 7, ground := Ground.chain }], guard := none }) (ws := [4, 7, 7]) rfl (by kernel_rfl) ?_
      intro L b v hC h0 hA h
      refine h.elim ?_; clear h; intro u4 h
      refine h.elim ?_; clear h; intro u30 h
      refine h.elim ?_; clear h; intro u31 h
      refine h.elim ?_; clear h; intro u32 h
      refine h.elim ?_; clear h; intro u33 h
      refine h.elim ?_; clear h; intro u34 h
      refine h.elim ?_; clear h; intro u35 h
      refine h.elim ?_; clear h; intro u36 h
      refine h.elim ?_; clear h; intro u37 h
      refine h.elim ?_; clear h; intro u38 h
      have hbb := h.1; replace h := h.2; subst hbb
      have hHeld := h.1; replace h := h.2
      have f0 := h.1; replace h := h.2
      have f1 := h.1; replace h := h.2
      have f2 := h.1; replace h := h.2
      have f3 := h.1; replace h := h.2
      have f4 := h.1; replace h := h.2
      have f5 := h.1; replace h := h.2
      have f6 := h.1; replace h := h.2
      have f7 := h.1; replace h := h.2
      have f8 := h.1; replace h := h.2
      have f9 := h.1; replace h := h.2
      have er := h; clear h
      intro K hK
      have g4 := f4 (hA 4 (by simp)) h0
      have g7 := f7 (hA 7 (by simp)) h0
      rw [if_pos (by kernel_rfl)]
      have q0 := cellB hHeld C3 hgp
      refine wp_append_src (.tmp 34) (.tmp 37) 28 rfl W0.heap.size 5 i (.int .u8 0) 1 1 Tryd.underlying28 hi hz hsize hby rfl (by omega) _ (N + 2) _ rfl g4 _ n2 _ rfl (src_own g7) (by have := g7.1; omega) (bytesV_one _) (by unfold maxLen; omega) (by omega) hHeld.size ?_; intro v' w' HO hG
      try simp only [Act.put, List.setIfInBounds_toArray, List.set_cons_zero, List.set_cons_succ]
      refine hK.out _ _ ⟨_, _, _, _, _, _, _, _, _, _, rfl, ?_, ?_, ?_, ?_, ?_, ?_, ?_, ?_, ?_, ?_, ?_, ?_⟩
      · exact grown3 hHeld hHeld.size g4 hG
      · first | exact flag_ne (by decide) f0 | exact fun _ => rfl
      · first | exact flag_ne (by decide) f1 | exact fun _ => rfl
      · first | exact flag_ne (by decide) f2 | exact fun _ => rfl
      · first | exact flag_ne (by decide) f3 | exact fun _ => rfl
      · intro _ h7; rw [getD_set_self] at h7; cases h7
      · first | exact flag_ne (by decide) f5 | exact fun _ => rfl
      · first | exact flag_ne (by decide) f6 | exact fun _ => rfl
      · intro _ h7; rw [getD_set_self] at h7; cases h7
      · intro _; first | exact HO | (trace_state; fail)
      · intro h; rw [getD_set_ne false (by decide)] at h; exact (getD_no h0 (hC.step (j := 9) (k := 8) h (by kernel_rfl))).elim
      · intro h; rw [getD_set_ne false (by decide)] at h; have := er h; first | exact this | exact owns_below this hb | (trace_state; fail)
    · refine StepAt.mk (o := { dst := some 4, op := Op.assign (Operand.tmp 38), type := 28, pos := _, after := #[{ on := 8, ground := Ground.data }, { on := 8, ground := Ground.chain }, { on := 0, ground := Ground.phase }, { on := 1, ground := Ground.phase }, { on := 2, ground := Ground.phase }, { on := 3, ground := Ground.phase }, { on := 4, ground := Ground.phase }, { on := 5, ground := Ground.phase }, { on := 6, ground := Ground.phase }, { on := 7, ground := Ground.phase }, { on := 8, ground := Ground.phase }], guard := none }) (ws := [8, 8, 0, 1, 2, 3, 4, 5, 6, 7, 8]) rfl (by kernel_rfl) ?_
      intro L b v hC h0 hA h
      refine h.elim ?_; clear h; intro u4 h
      refine h.elim ?_; clear h; intro u30 h
      refine h.elim ?_; clear h; intro u31 h
      refine h.elim ?_; clear h; intro u32 h
      refine h.elim ?_; clear h; intro u33 h
      refine h.elim ?_; clear h; intro u34 h
      refine h.elim ?_; clear h; intro u35 h
      refine h.elim ?_; clear h; intro u36 h
      refine h.elim ?_; clear h; intro u37 h
      refine h.elim ?_; clear h; intro u38 h
      have hbb := h.1; replace h := h.2; subst hbb
      have hHeld := h.1; replace h := h.2
      have f0 := h.1; replace h := h.2
      have f1 := h.1; replace h := h.2
      have f2 := h.1; replace h := h.2
      have f3 := h.1; replace h := h.2
      have f4 := h.1; replace h := h.2
      have f5 := h.1; replace h := h.2
      have f6 := h.1; replace h := h.2
      have f7 := h.1; replace h := h.2
      have f8 := h.1; replace h := h.2
      have f9 := h.1; replace h := h.2
      have er := h; clear h
      intro K hK
      have g8 := f8 (hA 8 (by simp))
      have g0 := f0 (hA 0 (by simp))
      have g1 := f1 (hA 1 (by simp))
      obtain rfl := g1
      have g2 := f2 (hA 2 (by simp))
      obtain rfl := g2
      have g3 := f3 (hA 3 (by simp))
      obtain rfl := g3
      have g4 := f4 (hA 4 (by simp))
      have g5 := f5 (hA 5 (by simp))
      obtain rfl := g5
      have g6 := f6 (hA 6 (by simp))
      obtain rfl := g6
      have g7 := f7 (hA 7 (by simp))
      rw [if_pos (by kernel_rfl)]
      have q0 := cellB hHeld C3 hgp
      go_simp
      try simp only [Act.put, List.setIfInBounds_toArray, List.set_cons_zero, List.set_cons_succ]
      refine hK.out _ _ ⟨_, _, _, _, _, _, _, _, _, _, rfl, ?_, ?_, ?_, ?_, ?_, ?_, ?_, ?_, ?_, ?_, ?_, ?_⟩
      · first | exact hHeld | exact hHeld.trans (hb.mono hHeld.size) | (trace_state; fail)
      · first | exact flag_ne (by decide) f0 | exact fun _ => rfl
      · first | exact flag_ne (by decide) f1 | exact fun _ => rfl
      · first | exact flag_ne (by decide) f2 | exact fun _ => rfl
      · first | exact flag_ne (by decide) f3 | exact fun _ => rfl
      · intro _ h7; rw [getD_set_ne true (by decide)] at h7; exact (getD_no h7 (hA 8 (by simp))).elim
      · first | exact flag_ne (by decide) f5 | exact fun _ => rfl
      · first | exact flag_ne (by decide) f6 | exact fun _ => rfl
      · intro _ h7; rw [getD_set_ne true (by decide)] at h7; exact (getD_no h7 (hA 8 (by simp))).elim
      · intro h; rw [getD_set_ne false (by decide)] at h; have := f8 h; first | exact this | exact owns_below this hb | (trace_state; fail)
      · intro _; first | exact g8 | (trace_state; fail)
      · intro h; rw [getD_set_done h0] at h; cases h
  intro L b v hA h
  refine h.elim ?_; clear h; intro u4 h
  refine h.elim ?_; clear h; intro u30 h
  refine h.elim ?_; clear h; intro u31 h
  refine h.elim ?_; clear h; intro u32 h
  refine h.elim ?_; clear h; intro u33 h
  refine h.elim ?_; clear h; intro u34 h
  refine h.elim ?_; clear h; intro u35 h
  refine h.elim ?_; clear h; intro u36 h
  refine h.elim ?_; clear h; intro u37 h
  refine h.elim ?_; clear h; intro u38 h
  have hbb := h.1; replace h := h.2; subst hbb
  have hHeld := h.1; replace h := h.2
  have f0 := h.1; replace h := h.2
  have f1 := h.1; replace h := h.2
  have f2 := h.1; replace h := h.2
  have f3 := h.1; replace h := h.2
  have f4 := h.1; replace h := h.2
  have f5 := h.1; replace h := h.2
  have f6 := h.1; replace h := h.2
  have f7 := h.1; replace h := h.2
  have f8 := h.1; replace h := h.2
  have f9 := h.1; replace h := h.2
  have er := h; clear h
  clear er
  have g0 := f0 (hA 0 (by omega))
  clear f0
  have g1 := f1 (hA 1 (by omega))
  clear f1
  obtain rfl := g1
  have g2 := f2 (hA 2 (by omega))
  clear f2
  obtain rfl := g2
  have g3 := f3 (hA 3 (by omega))
  clear f3
  obtain rfl := g3
  clear f4
  have g5 := f5 (hA 5 (by omega))
  clear f5
  obtain rfl := g5
  have g6 := f6 (hA 6 (by omega))
  clear f6
  obtain rfl := g6
  clear f7
  have g8 := f8 (hA 8 (by omega))
  clear f8
  have g9 := f9 (hA 9 (by omega))
  clear f9
  clear hA
  exact ⟨rfl, _, _, _, _, _, _, _, _, _, _, rfl, hHeld, g9⟩
end Go.Proofs.YtpeogdbfhfkngaaDoor
