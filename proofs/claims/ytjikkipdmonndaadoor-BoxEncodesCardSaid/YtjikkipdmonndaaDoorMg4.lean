/- Merged texts: TabPutV, TabPutW. -/
import Derived.Test.YtjikkipdmonndaaDoorMg3
/- Layer 14: a variable's row as bytes. -/
namespace Go.Proofs.YtjikkipdmonndaaDoor
open Go.RowKit
set_option linter.unusedSimpArgs false
set_option linter.unusedVariables false
theorem owns_int3 (w : World) {B : Nat} (a b c : Int) (hB : B ≤ w.heap.size) : (w.alloc (.cells #[.int .i64 a, .int .i64 b, .int .i64 c] 3)).ownsRow B 3 1 (.slice (some ⟨w.heap.size, 0, none⟩) 3 3) 3 [.int .i64 a, .int .i64 b, .int .i64 c] :=
  ⟨rfl, Or.inr ⟨w.heap.size, 3, #[.int .i64 a, .int .i64 b, .int .i64 c], rfl, hB, by show (w.heap.push _)[w.heap.size]? = _; simp, by omega, by unfold maxLen; omega, by simp, by simp⟩⟩
set_option maxRecDepth 100000 in
set_option maxHeartbeats 4000000 in
theorem putVar_r1 (W0 : World) (g : Nat) (x : Vr) (i : TypeInfo) (hi : Tryd.prog.info? 5 = some i) (hz : i.zero = some (.int .u8 0)) (hsize : i.size = 1) (hby : i.bytes = 1) (w1 : I64 x.t) (w2 : I64 x.n) (w3 : I64 x.area) (C0 : W0.cell? ⟨g, 0, none⟩ = some (.string ⟨x.name.toArray⟩)) (C1 : W0.cell? ⟨g, 1, none⟩ = some (.int .i64 x.t)) (C2 : W0.cell? ⟨g, 2, none⟩ = some (.int .i64 x.n)) (C3 : W0.cell? ⟨g, 3, none⟩ = some (.int .i64 x.area)) (C4 : W0.cell? ⟨g, 4, none⟩ = some (.int .i64 x.init)) (hg : g < W0.heap.size) (M : Nat) (T : List UInt8) (hM : M ≤ 1000) (HTX : Hid (∀ W, Calls Tryd.prog 51 #[.slice none 0 0, .string ⟨x.name.toArray⟩] W fun e w' => ∃ r, e = .returned r ∧ w'.ownsRow W.heap.size 5 1 r M (bytesV T) ∧ Below W.heap.size W w')) (t0 t2 t3 t4 t5 t6 t7 t8 t9 t10 t11 t12 t13 t14 t15 t16 t17 t18 t19 t20 t21 t22 t23 t24 t25 t26 t27 t28 t29 t30 t31 t32 t33 t34 : Value) :
    (Code.region 1 #[{ dst := some 5, op := Op.fieldAddr 41 (Operand.tmp 1) 0, type := 0, pos := "tab.go:91", after := #[], guard := none }, { dst := some 6, op := Op.load 9 (Operand.tmp 5), type := 9, pos := "tab.go:91", after := #[{ on := 0, ground := Ground.data }], guard := none }, { dst := some 7, op := Op.call { callee := Callee.value (Operand.func 51), args := #[Operand.const (Value.slice none 0 0), Operand.tmp 6], argTypes := #[30, 9] }, type := 30, pos := "tab.go:91", after := #[{ on := 1, ground := Ground.data }], guard := none }, { dst := some 8, op := Op.fieldAddr 41 (Operand.tmp 1) 1, type := 0, pos := "tab.go:91", after := #[], guard := none }, { dst := some 9, op := Op.load 3 (Operand.tmp 8), type := 3, pos := "tab.go:91", after := #[{ on := 3, ground := Ground.data }], guard := none }, { dst := some 10, op := Op.fieldAddr 41 (Operand.tmp 1) 2, type := 0, pos := "tab.go:91", after := #[], guard := none }, { dst := some 11, op := Op.load 3 (Operand.tmp 10), type := 3, pos := "tab.go:91", after := #[{ on := 5, ground := Ground.data }], guard := none }, { dst := some 12, op := Op.fieldAddr 41 (Operand.tmp 1) 3, type := 0, pos := "tab.go:91", after := #[], guard := none }, { dst := some 13, op := Op.load 3 (Operand.tmp 12), type := 3, pos := "tab.go:91", after := #[{ on := 7, ground := Ground.data }], guard := none }, { dst := some 14, op := Op.buildSlice 45 3 #[(0, Operand.tmp 9), (1, Operand.tmp 11), (2, Operand.tmp 13)], type := 45, pos := "tab.go:91", after := #[{ on := 4, ground := Ground.data }, { on := 6, ground := Ground.data }, { on := 8, ground := Ground.data }], guard := none }, { dst := some 15, op := Op.call { callee := Callee.value (Operand.func 47), args := #[Operand.tmp 14], argTypes := #[45] }, type := 30, pos := "tab.go:91", after := #[{ on := 9, ground := Ground.data }, { on := 2, ground := Ground.chain }], guard := none }, { dst := some 16, op := Op.call { callee := Callee.builtin Builtin.append, args := #[Operand.tmp 7, Operand.tmp 15], argTypes := #[30, 30] }, type := 30, pos := "tab.go:91", after := #[{ on := 2, ground := Ground.data }, { on := 10, ground := Ground.data }, { on := 10, ground := Ground.chain }], guard := none }, { dst := some 4, op := Op.assign (Operand.tmp 16), type := 30, pos := "tab.go:91", after := #[{ on := 11, ground := Ground.data }, { on := 11, ground := Ground.chain }, { on := 0, ground := Ground.phase }, { on := 1, ground := Ground.phase }, { on := 2, ground := Ground.phase }, { on := 3, ground := Ground.phase }, { on := 4, ground := Ground.phase }, { on := 5, ground := Ground.phase }, { on := 6, ground := Ground.phase }, { on := 7, ground := Ground.phase }, { on := 8, ground := Ground.phase }, { on := 9, ground := Ground.phase }, { on := 10, ground := Ground.phase }, { on := 11, ground := Ground.phase }], guard := none }] true).wp Tryd.prog (fun e b v => e = Exit.normal ∧ ∃ u4 u5 u6 u7 u8 u9 u10 u11 u12 u13 u14 u15 u16 : Value, b = ⟨#[t0, .pointer (some ⟨g, 0, none⟩), t2, t3, u4, u5, u6, u7, u8, u9, u10, u11, u12, u13, u14, u15, u16, t17, t18, t19, t20, t21, t22, t23, t24, t25, t26, t27, t28, t29, t30, t31, t32, t33, t34], []⟩ ∧ Below W0.heap.size W0 v ∧ (v.ownsRow W0.heap.size 5 1 u4 (M + 3) (bytesV T ++ bytesV [byteO x.t, byteO x.n, byteO x.area]))) ⟨#[t0, .pointer (some ⟨g, 0, none⟩), t2, t3, t4, t5, t6, t7, t8, t9, t10, t11, t12, t13, t14, t15, t16, t17, t18, t19, t20, t21, t22, t23, t24, t25, t26, t27, t28, t29, t30, t31, t32, t33, t34], []⟩ W0 := by
  refine wp_region_facts (n := 13) (fun L b v => ∃ u4 u5 u6 u7 u8 u9 u10 u11 u12 u13 u14 u15 u16 : Value, b = ⟨#[t0, .pointer (some ⟨g, 0, none⟩), t2, t3, u4, u5, u6, u7, u8, u9, u10, u11, u12, u13, u14, u15, u16, t17, t18, t19, t20, t21, t22, t23, t24, t25, t26, t27, t28, t29, t30, t31, t32, t33, t34], []⟩ ∧ Below W0.heap.size W0 v ∧ (L.getD 0 false = true → u5 = .pointer (some ⟨g, 0, none⟩)) ∧ (L.getD 1 false = true → u6 = .string ⟨x.name.toArray⟩) ∧ (L.getD 2 false = true → L.getD 11 true = false → v.ownsRow W0.heap.size 5 1 u7 M (bytesV T)) ∧ (L.getD 3 false = true → u8 = .pointer (some ⟨g, 1, none⟩)) ∧ (L.getD 4 false = true → u9 = .int .i64 x.t) ∧ (L.getD 5 false = true → u10 = .pointer (some ⟨g, 2, none⟩)) ∧ (L.getD 6 false = true → u11 = .int .i64 x.n) ∧ (L.getD 7 false = true → u12 = .pointer (some ⟨g, 3, none⟩)) ∧ (L.getD 8 false = true → u13 = .int .i64 x.area) ∧ (L.getD 9 false = true → ∃ q, u14 = .slice (some ⟨q, 0, none⟩) 3 3 ∧ v.ownsRow W0.heap.size 3 1 (.slice (some ⟨q, 0, none⟩) 3 3) 3 [.int .i64 x.t, .int .i64 x.n, .int .i64 x.area]) ∧ (L.getD 10 false = true → L.getD 11 true = false → v.ownsRow W0.heap.size 5 1 u15 3 (bytesV [byteO x.t, byteO x.n, byteO x.area])) ∧ (L.getD 11 false = true → v.ownsRow W0.heap.size 5 1 u16 (M + 3) (bytesV T ++ bytesV [byteO x.t, byteO x.n, byteO x.area])) ∧ (L.getD 12 false = true → v.ownsRow W0.heap.size 5 1 u4 (M + 3) (bytesV T ++ bytesV [byteO x.t, byteO x.n, byteO x.area]))) (by kernel_rfl) (by kernel_rfl) (by kernel_rfl) ?_ ?_ ?_
  · refine ⟨_, _, _, _, _, _, _, _, _, _, _, _, _, rfl, (Below.refl _ _).drew, flag_new, flag_new, flag_new, flag_new, flag_new, flag_new, flag_new, flag_new, flag_new, flag_new, flag_new, flag_new, flag_new⟩
  · refine AllSteps.succ (AllSteps.succ (AllSteps.succ (AllSteps.succ (AllSteps.succ (AllSteps.succ (AllSteps.succ (AllSteps.succ (AllSteps.succ (AllSteps.succ (AllSteps.succ (AllSteps.succ (AllSteps.succ AllSteps.zero ?_) ?_) ?_) ?_) ?_) ?_) ?_) ?_) ?_) ?_) ?_) ?_) ?_
    · refine StepAt.mk (o := { dst := some 5, op := Op.fieldAddr 41 (Operand.tmp 1) 0, type := 0, pos := _, after := #[], guard := none }) (ws := []) rfl (by kernel_rfl) ?_
      intro L b v hC h0 hA h
      refine h.elim ?_; clear h; intro u4 h
      refine h.elim ?_; clear h; intro u5 h
      refine h.elim ?_; clear h; intro u6 h
      refine h.elim ?_; clear h; intro u7 h
      refine h.elim ?_; clear h; intro u8 h
      refine h.elim ?_; clear h; intro u9 h
      refine h.elim ?_; clear h; intro u10 h
      refine h.elim ?_; clear h; intro u11 h
      refine h.elim ?_; clear h; intro u12 h
      refine h.elim ?_; clear h; intro u13 h
      refine h.elim ?_; clear h; intro u14 h
      refine h.elim ?_; clear h; intro u15 h
      refine h.elim ?_; clear h; intro u16 h
      have hbb := h.1; replace h := h.2; subst hbb
      have hHeld := h.1; replace h := h.2
      have f0 := h.1; replace h := h.2
      have f1 := h.1; replace h := h.2
      have f2 := h.1; replace h := h.2
      have f3 := h.1; replace h := h.2
      have f4 := h.1; replace h := h.2
      have f5 := h.1; replace h := h.2
      have f6 := h.1; replace h := h.2
      have f7 := h.1; replace h := h.2
      have f8 := h.1; replace h := h.2
      have f9 := h.1; replace h := h.2
      have f10 := h.1; replace h := h.2
      have f11 := h.1; replace h := h.2
      have f12 := h; clear h
      intro K hK
      rw [if_pos (by kernel_rfl)]
      have q0 := cellB hHeld C0 hg
      have q1 := cellB hHeld C1 hg
      have q2 := cellB hHeld C2 hg
      have q3 := cellB hHeld C3 hg
      have q4 := cellB hHeld C4 hg
      go_simp
      try simp only [Act.put, List.setIfInBounds_toArray, List.set_cons_zero, List.set_cons_succ]
      refine hK.out _ _ ⟨_, _, _, _, _, _, _, _, _, _, _, _, _, rfl, ?_, ?_, ?_, ?_, ?_, ?_, ?_, ?_, ?_, ?_, ?_, ?_, ?_, ?_⟩
      · first | exact hHeld | exact hHeld.trans (hb.mono hHeld.size) | (trace_state; fail)
      · intro _; first | rfl | (trace_state; fail)
      · first | exact flag_ne (by decide) f1 | exact fun _ => rfl
      · intro h _; rw [getD_set_ne false (by decide)] at h; exact (getD_no h0 (hC.step (j := 1) (k := 0) (hC.step (j := 2) (k := 1) h (by kernel_rfl)) (by kernel_rfl))).elim
      · first | exact flag_ne (by decide) f3 | exact fun _ => rfl
      · first | exact flag_ne (by decide) f4 | exact fun _ => rfl
      · first | exact flag_ne (by decide) f5 | exact fun _ => rfl
      · first | exact flag_ne (by decide) f6 | exact fun _ => rfl
      · first | exact flag_ne (by decide) f7 | exact fun _ => rfl
      · first | exact flag_ne (by decide) f8 | exact fun _ => rfl
      · intro h; rw [getD_set_ne false (by decide)] at h; have := f9 h; obtain ⟨q, e1, e2⟩ := this; exact (by first | exact ⟨q, e1, e2⟩ | exact ⟨q, e1, owns_below e2 hb⟩ | exact ⟨q, e1, owns_grown e2 hG (fun g hg => owns_type e2 g2 (by decide) hg)⟩ | (trace_state; fail))
      · intro h _; rw [getD_set_ne false (by decide)] at h; exact (getD_no h0 (hC.step (j := 1) (k := 0) (hC.step (j := 2) (k := 1) (hC.step (j := 10) (k := 2) h (by kernel_rfl)) (by kernel_rfl)) (by kernel_rfl))).elim
      · intro h; rw [getD_set_ne false (by decide)] at h; exact (getD_no h0 (hC.step (j := 1) (k := 0) (hC.step (j := 2) (k := 1) (hC.step (j := 11) (k := 2) h (by kernel_rfl)) (by kernel_rfl)) (by kernel_rfl))).elim
      · intro h; rw [getD_set_ne false (by decide)] at h; exact (getD_no h0 (hC.step (j := 12) (k := 0) h (by kernel_rfl))).elim
    · refine StepAt.mk (o := { dst := some 6, op := Op.load 9 (Operand.tmp 5), type := 9, pos := _, after := #[{ on := 0, ground := Ground.data }], guard := none }) (ws := [0]) rfl (by kernel_rfl) ?_
      intro L b v hC h0 hA h
      refine h.elim ?_; clear h; intro u4 h
      refine h.elim ?_; clear h; intro u5 h
      refine h.elim ?_; clear h; intro u6 h
      refine h.elim ?_; clear h; intro u7 h
      refine h.elim ?_; clear h; intro u8 h
      refine h.elim ?_; clear h; intro u9 h
      refine h.elim ?_; clear h; intro u10 h
      refine h.elim ?_; clear h; intro u11 h
      refine h.elim ?_; clear h; intro u12 h
      refine h.elim ?_; clear h; intro u13 h
      refine h.elim ?_; clear h; intro u14 h
      refine h.elim ?_; clear h; intro u15 h
      refine h.elim ?_; clear h; intro u16 h
      have hbb := h.1; replace h := h.2; subst hbb
      have hHeld := h.1; replace h := h.2
      have f0 := h.1; replace h := h.2
      have f1 := h.1; replace h := h.2
      have f2 := h.1; replace h := h.2
      have f3 := h.1; replace h := h.2
      have f4 := h.1; replace h := h.2
      have f5 := h.1; replace h := h.2
      have f6 := h.1; replace h := h.2
      have f7 := h.1; replace h := h.2
      have f8 := h.1; replace h := h.2
      have f9 := h.1; replace h := h.2
      have f10 := h.1; replace h := h.2
      have f11 := h.1; replace h := h.2
      have f12 := h; clear h
      intro K hK
      have g0 := f0 (hA 0 (by simp))
      obtain rfl := g0
      rw [if_pos (by kernel_rfl)]
      have q0 := cellB hHeld C0 hg
      have q1 := cellB hHeld C1 hg
      have q2 := cellB hHeld C2 hg
      have q3 := cellB hHeld C3 hg
      have q4 := cellB hHeld C4 hg
      go_simp
      try simp only [Act.put, List.setIfInBounds_toArray, List.set_cons_zero, List.set_cons_succ]
      refine hK.out _ _ ⟨_, _, _, _, _, _, _, _, _, _, _, _, _, rfl, ?_, ?_, ?_, ?_, ?_, ?_, ?_, ?_, ?_, ?_, ?_, ?_, ?_, ?_⟩
      · first | exact hHeld | exact hHeld.trans (hb.mono hHeld.size) | (trace_state; fail)
      · first | exact flag_ne (by decide) f0 | exact fun _ => rfl
      · intro _; first | rfl | (trace_state; fail)
      · intro h _; rw [getD_set_ne false (by decide)] at h; exact (getD_no h0 (hC.step (j := 2) (k := 1) h (by kernel_rfl))).elim
      · first | exact flag_ne (by decide) f3 | exact fun _ => rfl
      · first | exact flag_ne (by decide) f4 | exact fun _ => rfl
      · first | exact flag_ne (by decide) f5 | exact fun _ => rfl
      · first | exact flag_ne (by decide) f6 | exact fun _ => rfl
      · first | exact flag_ne (by decide) f7 | exact fun _ => rfl
      · first | exact flag_ne (by decide) f8 | exact fun _ => rfl
      · intro h; rw [getD_set_ne false (by decide)] at h; have := f9 h; obtain ⟨q, e1, e2⟩ := this; exact (by first | exact ⟨q, e1, e2⟩ | exact ⟨q, e1, owns_below e2 hb⟩ | exact ⟨q, e1, owns_grown e2 hG (fun g hg => owns_type e2 g2 (by decide) hg)⟩ | (trace_state; fail))
      · intro h _; rw [getD_set_ne false (by decide)] at h; exact (getD_no h0 (hC.step (j := 2) (k := 1) (hC.step (j := 10) (k := 2) h (by kernel_rfl)) (by kernel_rfl))).elim
      · intro h; rw [getD_set_ne false (by decide)] at h; exact (getD_no h0 (hC.step (j := 2) (k := 1) (hC.step (j := 11) (k := 2) h (by kernel_rfl)) (by kernel_rfl))).elim
      · intro h; rw [getD_set_ne false (by decide)] at h; exact (getD_no h0 (hC.step (j := 12) (k := 1) h (by kernel_rfl))).elim
    · refine StepAt.mk (o := { dst := some 7, op := Op.call { callee := Callee.value (Operand.func 51), args := #[Operand.const (Value.slice none 0 0), Operand.tmp 6], argTypes := #[30, 9] }, type := 30, pos := _, after := #[{ on := 1, ground := Ground.data }], guard := none }) (ws := [1]) rfl (by kernel_rfl) ?_
      intro L b v hC h0 hA h
      refine h.elim ?_; clear h; intro u4 h
      refine h.elim ?_; clear h; intro u5 h
      refine h.elim ?_; clear h; intro u6 h
      refine h.elim ?_; clear h; intro u7 h
      refine h.elim ?_; clear h; intro u8 h
      refine h.elim ?_; clear h; intro u9 h
      refine h.elim ?_; clear h; intro u10 h
      refine h.elim ?_; clear h; intro u11 h
      refine h.elim ?_; clear h; intro u12 h
      refine h.elim ?_; clear h; intro u13 h
      refine h.elim ?_; clear h; intro u14 h
      refine h.elim ?_; clear h; intro u15 h
      refine h.elim ?_; clear h; intro u16 h
      have hbb := h.1; replace h := h.2; subst hbb
      have hHeld := h.1; replace h := h.2
      have f0 := h.1; replace h := h.2
      have f1 := h.1; replace h := h.2
      have f2 := h.1; replace h := h.2
      have f3 := h.1; replace h := h.2
      have f4 := h.1; replace h := h.2
      have f5 := h.1; replace h := h.2
      have f6 := h.1; replace h := h.2
      have f7 := h.1; replace h := h.2
      have f8 := h.1; replace h := h.2
      have f9 := h.1; replace h := h.2
      have f10 := h.1; replace h := h.2
      have f11 := h.1; replace h := h.2
      have f12 := h; clear h
      intro K hK
      have g1 := f1 (hA 1 (by simp))
      obtain rfl := g1
      rw [if_pos (by kernel_rfl)]
      have q0 := cellB hHeld C0 hg
      have q1 := cellB hHeld C1 hg
      have q2 := cellB hHeld C2 hg
      have q3 := cellB hHeld C3 hg
      have q4 := cellB hHeld C4 hg
      go_simp
      refine (HTX.out v).mono ?_; rintro e v1 ⟨r, rfl, HO, hb⟩
      go_wp2_with fail
      try simp only [Act.put, List.setIfInBounds_toArray, List.set_cons_zero, List.set_cons_succ]
      refine hK.out _ _ ⟨_, _, _, _, _, _, _, _, _, _, _, _, _, rfl, ?_, ?_, ?_, ?_, ?_, ?_, ?_, ?_, ?_, ?_, ?_, ?_, ?_, ?_⟩
      · first | exact hHeld | exact hHeld.trans (hb.mono hHeld.size) | (trace_state; fail)
      · first | exact flag_ne (by decide) f0 | exact fun _ => rfl
      · first | exact flag_ne (by decide) f1 | exact fun _ => rfl
      · intro _ _; first | (exact own_low HO hHeld.size) | (trace_state; fail)
      · first | exact flag_ne (by decide) f3 | exact fun _ => rfl
      · first | exact flag_ne (by decide) f4 | exact fun _ => rfl
      · first | exact flag_ne (by decide) f5 | exact fun _ => rfl
      · first | exact flag_ne (by decide) f6 | exact fun _ => rfl
      · first | exact flag_ne (by decide) f7 | exact fun _ => rfl
      · first | exact flag_ne (by decide) f8 | exact fun _ => rfl
      · intro h; rw [getD_set_ne false (by decide)] at h; have := f9 h; obtain ⟨q, e1, e2⟩ := this; exact (by first | exact ⟨q, e1, e2⟩ | exact ⟨q, e1, owns_below e2 hb⟩ | exact ⟨q, e1, owns_grown e2 hG (fun g hg => owns_type e2 g2 (by decide) hg)⟩ | (trace_state; fail))
      · intro h _; rw [getD_set_ne false (by decide)] at h; exact (getD_no h0 (hC.step (j := 10) (k := 2) h (by kernel_rfl))).elim
      · intro h; rw [getD_set_ne false (by decide)] at h; exact (getD_no h0 (hC.step (j := 11) (k := 2) h (by kernel_rfl))).elim
      · intro h; rw [getD_set_ne false (by decide)] at h; exact (getD_no h0 (hC.step (j := 12) (k := 2) h (by kernel_rfl))).elim
    · refine StepAt.mk (o := { dst := some 8, op := Op.fieldAddr 41 (Operand.tmp 1) 1, type := 0, pos := _, after := #[], guard := none }) (ws := []) rfl (by kernel_rfl) ?_
      intro L b v hC h0 hA h
      refine h.elim ?_; clear h; intro u4 h
      refine h.elim ?_; clear h; intro u5 h
      refine h.elim ?_; clear h; intro u6 h
      refine h.elim ?_; clear h; intro u7 h
      refine h.elim ?_; clear h; intro u8 h
      refine h.elim ?_; clear h; intro u9 h
      refine h.elim ?_; clear h; intro u10 h
      refine h.elim ?_; clear h; intro u11 h
      refine h.elim ?_; clear h; intro u12 h
      refine h.elim ?_; clear h; intro u13 h
      refine h.elim ?_; clear h; intro u14 h
      refine h.elim ?_; clear h; intro u15 h
      refine h.elim ?_; clear h; intro u16 h
      have hbb := h.1; replace h := h.2; subst hbb
      have hHeld := h.1; replace h := h.2
      have f0 := h.1; replace h := h.2
      have f1 := h.1; replace h := h.2
      have f2 := h.1; replace h := h.2
      have f3 := h.1; replace h := h.2
      have f4 := h.1; replace h := h.2
      have f5 := h.1; replace h := h.2
      have f6 := h.1; replace h := h.2
      have f7 := h.1; replace h := h.2
      have f8 := h.1; replace h := h.2
      have f9 := h.1; replace h := h.2
      have f10 := h.1; replace h := h.2
      have f11 := h.1; replace h := h.2
      have f12 := h; clear h
      intro K hK
      rw [if_pos (by kernel_rfl)]
      have q0 := cellB hHeld C0 hg
      have q1 := cellB hHeld C1 hg
      have q2 := cellB hHeld C2 hg
      have q3 := cellB hHeld C3 hg
      have q4 := cellB hHeld C4 hg
      go_simp
      try simp only [Act.put, List.setIfInBounds_toArray, List.set_cons_zero, List.set_cons_succ]
      refine hK.out _ _ ⟨_, _, _, _, _, _, _, _, _, _, _, _, _, rfl, ?_, ?_, ?_, ?_, ?_, ?_, ?_, ?_, ?_, ?_, ?_, ?_, ?_, ?_⟩
      · first | exact hHeld | exact hHeld.trans (hb.mono hHeld.size) | (trace_state; fail)
      · first | exact flag_ne (by decide) f0 | exact fun _ => rfl
      · first | exact flag_ne (by decide) f1 | exact fun _ => rfl
      · intro h h7; rw [getD_set_ne false (by decide)] at h; rw [getD_set_ne true (by decide)] at h7; have := f2 h h7; first | exact this | exact owns_below this hb | (trace_state; fail)
      · intro _; first | rfl | (trace_state; fail)
      · first | exact flag_ne (by decide) f4 | exact fun _ => rfl
      · first | exact flag_ne (by decide) f5 | exact fun _ => rfl
      · first | exact flag_ne (by decide) f6 | exact fun _ => rfl
      · first | exact flag_ne (by decide) f7 | exact fun _ => rfl
      · first | exact flag_ne (by decide) f8 | exact fun _ => rfl
      · intro h; rw [getD_set_ne false (by decide)] at h; exact (getD_no h0 (hC.step (j := 4) (k := 3) (hC.step (j := 9) (k := 4) h (by kernel_rfl)) (by kernel_rfl))).elim
      · intro h _; rw [getD_set_ne false (by decide)] at h; exact (getD_no h0 (hC.step (j := 4) (k := 3) (hC.step (j := 9) (k := 4) (hC.step (j := 10) (k := 9) h (by kernel_rfl)) (by kernel_rfl)) (by kernel_rfl))).elim
      · intro h; rw [getD_set_ne false (by decide)] at h; exact (getD_no h0 (hC.step (j := 4) (k := 3) (hC.step (j := 9) (k := 4) (hC.step (j := 10) (k := 9) (hC.step (j := 11) (k := 10) h (by kernel_rfl)) (by kernel_rfl)) (by kernel_rfl)) (by kernel_rfl))).elim
      · intro h; rw [getD_set_ne false (by decide)] at h; exact (getD_no h0 (hC.step (j := 12) (k := 3) h (by kernel_rfl))).elim
    · refine StepAt.mk (o := { dst := some 9, op := Op.load 3 (Operand.tmp 8), type := 3, pos := _, after := #[{ on := 3, ground := Ground.data }], guard := none }) (ws := [3]) rfl (by kernel_rfl) ?_
      intro L b v hC h0 hA h
      refine h.elim ?_; clear h; intro u4 h
      refine h.elim ?_; clear h; intro u5 h
      refine h.elim ?_; clear h; intro u6 h
      refine h.elim ?_; clear h; intro u7 h
      refine h.elim ?_; clear h; intro u8 h
      refine h.elim ?_; clear h; intro u9 h
      refine h.elim ?_; clear h; intro u10 h
      refine h.elim ?_; clear h; intro u11 h
      refine h.elim ?_; clear h; intro u12 h
      refine h.elim ?_; clear h; intro u13 h
      refine h.elim ?_; clear h; intro u14 h
      refine h.elim ?_; clear h; intro u15 h
      refine h.elim ?_; clear h; intro u16 h
      have hbb := h.1; replace h := h.2; subst hbb
      have hHeld := h.1; replace h := h.2
      have f0 := h.1; replace h := h.2
      have f1 := h.1; replace h := h.2
      have f2 := h.1; replace h := h.2
      have f3 := h.1; replace h := h.2
      have f4 := h.1; replace h := h.2
      have f5 := h.1; replace h := h.2
      have f6 := h.1; replace h := h.2
      have f7 := h.1; replace h := h.2
      have f8 := h.1; replace h := h.2
      have f9 := h.1; replace h := h.2
      have f10 := h.1; replace h := h.2
      have f11 := h.1; replace h := h.2
      have f12 := h; clear h
      intro K hK
      have g3 := f3 (hA 3 (by simp))
      obtain rfl := g3
      rw [if_pos (by kernel_rfl)]
      have q0 := cellB hHeld C0 hg
      have q1 := cellB hHeld C1 hg
      have q2 := cellB hHeld C2 hg
      have q3 := cellB hHeld C3 hg
      have q4 := cellB hHeld C4 hg
      go_simp
      try simp only [Act.put, List.setIfInBounds_toArray, List.set_cons_zero, List.set_cons_succ]
      refine hK.out _ _ ⟨_, _, _, _, _, _, _, _, _, _, _, _, _, rfl, ?_, ?_, ?_, ?_, ?_, ?_, ?_, ?_, ?_, ?_, ?_, ?_, ?_, ?_⟩
      · first | exact hHeld | exact hHeld.trans (hb.mono hHeld.size) | (trace_state; fail)
      · first | exact flag_ne (by decide) f0 | exact fun _ => rfl
      · first | exact flag_ne (by decide) f1 | exact fun _ => rfl
      · intro h h7; rw [getD_set_ne false (by decide)] at h; rw [getD_set_ne true (by decide)] at h7; have := f2 h h7; first | exact this | exact owns_below this hb | (trace_state; fail)
      · first | exact flag_ne (by decide) f3 | exact fun _ => rfl
      · intro _; first | rfl | (trace_state; fail)
      · first | exact flag_ne (by decide) f5 | exact fun _ => rfl
      · first | exact flag_ne (by decide) f6 | exact fun _ => rfl
      · first | exact flag_ne (by decide) f7 | exact fun _ => rfl
      · first | exact flag_ne (by decide) f8 | exact fun _ => rfl
      · intro h; rw [getD_set_ne false (by decide)] at h; exact (getD_no h0 (hC.step (j := 9) (k := 4) h (by kernel_rfl))).elim
      · intro h _; rw [getD_set_ne false (by decide)] at h; exact (getD_no h0 (hC.step (j := 9) (k := 4) (hC.step (j := 10) (k := 9) h (by kernel_rfl)) (by kernel_rfl))).elim
      · intro h; rw [getD_set_ne false (by decide)] at h; exact (getD_no h0 (hC.step (j := 9) (k := 4) (hC.step (j := 10) (k := 9) (hC.step (j := 11) (k := 10) h (by kernel_rfl)) (by kernel_rfl)) (by kernel_rfl))).elim
      · intro h; rw [getD_set_ne false (by decide)] at h; exact (getD_no h0 (hC.step (j := 12) (k := 4) h (by kernel_rfl))).elim
    · refine StepAt.mk (o := { dst := some 10, op := Op.fieldAddr 41 (Operand.tmp 1) 2, type := 0, pos := _, after := #[], guard := none }) (ws := []) rfl (by kernel_rfl) ?_
      intro L b v hC h0 hA h
      refine h.elim ?_; clear h; intro u4 h
      refine h.elim ?_; clear h; intro u5 h
      refine h.elim ?_; clear h; intro u6 h
      refine h.elim ?_; clear h; intro u7 h
      refine h.elim ?_; clear h; intro u8 h
      refine h.elim ?_; clear h; intro u9 h
      refine h.elim ?_; clear h; intro u10 h
      refine h.elim ?_; clear h; intro u11 h
      refine h.elim ?_; clear h; intro u12 h
      refine h.elim ?_; clear h; intro u13 h
      refine h.elim ?_; clear h; intro u14 h
      refine h.elim ?_; clear h; intro u15 h
      refine h.elim ?_; clear h; intro u16 h
      have hbb := h.1; replace h := h.2; subst hbb
      have hHeld := h.1; replace h := h.2
      have f0 := h.1; replace h := h.2
      have f1 := h.1; replace h := h.2
      have f2 := h.1; replace h := h.2
      have f3 := h.1; replace h := h.2
      have f4 := h.1; replace h := h.2
      have f5 := h.1; replace h := h.2
      have f6 := h.1; replace h := h.2
      have f7 := h.1; replace h := h.2
      have f8 := h.1; replace h := h.2
      have f9 := h.1; replace h := h.2
      have f10 := h.1; replace h := h.2
      have f11 := h.1; replace h := h.2
      have f12 := h; clear h
      intro K hK
      rw [if_pos (by kernel_rfl)]
      have q0 := cellB hHeld C0 hg
      have q1 := cellB hHeld C1 hg
      have q2 := cellB hHeld C2 hg
      have q3 := cellB hHeld C3 hg
      have q4 := cellB hHeld C4 hg
      go_simp
      try simp only [Act.put, List.setIfInBounds_toArray, List.set_cons_zero, List.set_cons_succ]
      refine hK.out _ _ ⟨_, _, _, _, _, _, _, _, _, _, _, _, _, rfl, ?_, ?_, ?_, ?_, ?_, ?_, ?_, ?_, ?_, ?_, ?_, ?_, ?_, ?_⟩
      · first | exact hHeld | exact hHeld.trans (hb.mono hHeld.size) | (trace_state; fail)
      · first | exact flag_ne (by decide) f0 | exact fun _ => rfl
      · first | exact flag_ne (by decide) f1 | exact fun _ => rfl
      · intro h h7; rw [getD_set_ne false (by decide)] at h; rw [getD_set_ne true (by decide)] at h7; have := f2 h h7; first | exact this | exact owns_below this hb | (trace_state; fail)
      · first | exact flag_ne (by decide) f3 | exact fun _ => rfl
      · first | exact flag_ne (by decide) f4 | exact fun _ => rfl
      · intro _; first | rfl | (trace_state; fail)
      · first | exact flag_ne (by decide) f6 | exact fun _ => rfl
      · first | exact flag_ne (by decide) f7 | exact fun _ => rfl
      · first | exact flag_ne (by decide) f8 | exact fun _ => rfl
      · intro h; rw [getD_set_ne false (by decide)] at h; exact (getD_no h0 (hC.step (j := 6) (k := 5) (hC.step (j := 9) (k := 6) h (by kernel_rfl)) (by kernel_rfl))).elim
      · intro h _; rw [getD_set_ne false (by decide)] at h; exact (getD_no h0 (hC.step (j := 6) (k := 5) (hC.step (j := 9) (k := 6) (hC.step (j := 10) (k := 9) h (by kernel_rfl)) (by kernel_rfl)) (by kernel_rfl))).elim
      · intro h; rw [getD_set_ne false (by decide)] at h; exact (getD_no h0 (hC.step (j := 6) (k := 5) (hC.step (j := 9) (k := 6) (hC.step (j := 10) (k := 9) (hC.step (j := 11) (k := 10) h (by kernel_rfl)) (by kernel_rfl)) (by kernel_rfl)) (by kernel_rfl))).elim
      · intro h; rw [getD_set_ne false (by decide)] at h; exact (getD_no h0 (hC.step (j := 12) (k := 5) h (by kernel_rfl))).elim
    · refine StepAt.mk (o := { dst := some 11, op := Op.load 3 (Operand.tmp 10), type := 3, pos := _, after := #[{ on := 5, ground := Ground.data }], guard := none }) (ws := [5]) rfl (by kernel_rfl) ?_
      intro L b v hC h0 hA h
      refine h.elim ?_; clear h; intro u4 h
      refine h.elim ?_; clear h; intro u5 h
      refine h.elim ?_; clear h; intro u6 h
      refine h.elim ?_; clear h; intro u7 h
      refine h.elim ?_; clear h; intro u8 h
      refine h.elim ?_; clear h; intro u9 h
      refine h.elim ?_; clear h; intro u10 h
      refine h.elim ?_; clear h; intro u11 h
      refine h.elim ?_; clear h; intro u12 h
      refine h.elim ?_; clear h; intro u13 h
      refine h.elim ?_; clear h; intro u14 h
      refine h.elim ?_; clear h; intro u15 h
      refine h.elim ?_; clear h; intro u16 h
      have hbb := h.1; replace h := h.2; subst hbb
      have hHeld := h.1; replace h := h.2
      have f0 := h.1; replace h := h.2
      have f1 := h.1; replace h := h.2
      have f2 := h.1; replace h := h.2
      have f3 := h.1; replace h := h.2
      have f4 := h.1; replace h := h.2
      have f5 := h.1; replace h := h.2
      have f6 := h.1; replace h := h.2
      have f7 := h.1; replace h := h.2
      have f8 := h.1; replace h := h.2
      have f9 := h.1; replace h := h.2
      have f10 := h.1; replace h := h.2
      have f11 := h.1; replace h := h.2
      have f12 := h; clear h
      intro K hK
      have g5 := f5 (hA 5 (by simp))
      obtain rfl := g5
      rw [if_pos (by kernel_rfl)]
      have q0 := cellB hHeld C0 hg
      have q1 := cellB hHeld C1 hg
      have q2 := cellB hHeld C2 hg
      have q3 := cellB hHeld C3 hg
      have q4 := cellB hHeld C4 hg
      go_simp
      try simp only [Act.put, List.setIfInBounds_toArray, List.set_cons_zero, List.set_cons_succ]
      refine hK.out _ _ ⟨_, _, _, _, _, _, _, _, _, _, _, _, _, rfl, ?_, ?_, ?_, ?_, ?_, ?_, ?_, ?_, ?_, ?_, ?_, ?_, ?_, ?_⟩
      · first | exact hHeld | exact hHeld.trans (hb.mono hHeld.size) | (trace_state; fail)
      · first | exact flag_ne (by decide) f0 | exact fun _ => rfl
      · first | exact flag_ne (by decide) f1 | exact fun _ => rfl
      · intro h h7; rw [getD_set_ne false (by decide)] at h; rw [getD_set_ne true (by decide)] at h7; have := f2 h h7; first | exact this | exact owns_below this hb | (trace_state; fail)
      · first | exact flag_ne (by decide) f3 | exact fun _ => rfl
      · first | exact flag_ne (by decide) f4 | exact fun _ => rfl
      · first | exact flag_ne (by decide) f5 | exact fun _ => rfl
      · intro _; first | rfl | (trace_state; fail)
      · first | exact flag_ne (by decide) f7 | exact fun _ => rfl
      · first | exact flag_ne (by decide) f8 | exact fun _ => rfl
      · intro h; rw [getD_set_ne false (by decide)] at h; exact (getD_no h0 (hC.step (j := 9) (k := 6) h (by kernel_rfl))).elim
      · intro h _; rw [getD_set_ne false (by decide)] at h; exact (getD_no h0 (hC.step (j := 9) (k := 6) (hC.step (j := 10) (k := 9) h (by kernel_rfl)) (by kernel_rfl))).elim
      · intro h; rw [getD_set_ne false (by decide)] at h; exact (getD_no h0 (hC.step (j := 9) (k := 6) (hC.step (j := 10) (k := 9) (hC.step (j := 11) (k := 10) h (by kernel_rfl)) (by kernel_rfl)) (by kernel_rfl))).elim
      · intro h; rw [getD_set_ne false (by decide)] at h; exact (getD_no h0 (hC.step (j := 12) (k := 6) h (by kernel_rfl))).elim
    · refine StepAt.mk (o := { dst := some 12, op := Op.fieldAddr 41 (Operand.tmp 1) 3, type := 0, pos := _, after := #[], guard := none }) (ws := []) rfl (by kernel_rfl) ?_
      intro L b v hC h0 hA h
      refine h.elim ?_; clear h; intro u4 h
      refine h.elim ?_; clear h; intro u5 h
      refine h.elim ?_; clear h; intro u6 h
      refine h.elim ?_; clear h; intro u7 h
      refine h.elim ?_; clear h; intro u8 h
      refine h.elim ?_; clear h; intro u9 h
      refine h.elim ?_; clear h; intro u10 h
      refine h.elim ?_; clear h; intro u11 h
      refine h.elim ?_; clear h; intro u12 h
      refine h.elim ?_; clear h; intro u13 h
      refine h.elim ?_; clear h; intro u14 h
      refine h.elim ?_; clear h; intro u15 h
      refine h.elim ?_; clear h; intro u16 h
      have hbb := h.1; replace h := h.2; subst hbb
      have hHeld := h.1; replace h := h.2
      have f0 := h.1; replace h := h.2
      have f1 := h.1; replace h := h.2
      have f2 := h.1; replace h := h.2
      have f3 := h.1; replace h := h.2
      have f4 := h.1; replace h := h.2
      have f5 := h.1; replace h := h.2
      have f6 := h.1; replace h := h.2
      have f7 := h.1; replace h := h.2
      have f8 := h.1; replace h := h.2
      have f9 := h.1; replace h := h.2
      have f10 := h.1; replace h := h.2
      have f11 := h.1; replace h := h.2
      have f12 := h; clear h
      intro K hK
      rw [if_pos (by kernel_rfl)]
      have q0 := cellB hHeld C0 hg
      have q1 := cellB hHeld C1 hg
      have q2 := cellB hHeld C2 hg
      have q3 := cellB hHeld C3 hg
      have q4 := cellB hHeld C4 hg
      go_simp
      try simp only [Act.put, List.setIfInBounds_toArray, List.set_cons_zero, List.set_cons_succ]
      refine hK.out _ _ ⟨_, _, _, _, _, _, _, _, _, _, _, _, _, rfl, ?_, ?_, ?_, ?_, ?_, ?_, ?_, ?_, ?_, ?_, ?_, ?_, ?_, ?_⟩
      · first | exact hHeld | exact hHeld.trans (hb.mono hHeld.size) | (trace_state; fail)
      · first | exact flag_ne (by decide) f0 | exact fun _ => rfl
      · first | exact flag_ne (by decide) f1 | exact fun _ => rfl
      · intro h h7; rw [getD_set_ne false (by decide)] at h; rw [getD_set_ne true (by decide)] at h7; have := f2 h h7; first | exact this | exact owns_below this hb | (trace_state; fail)
      · first | exact flag_ne (by decide) f3 | exact fun _ => rfl
      · first | exact flag_ne (by decide) f4 | exact fun _ => rfl
      · first | exact flag_ne (by decide) f5 | exact fun _ => rfl
      · first | exact flag_ne (by decide) f6 | exact fun _ => rfl
      · intro _; first | rfl | (trace_state; fail)
      · first | exact flag_ne (by decide) f8 | exact fun _ => rfl
      · intro h; rw [getD_set_ne false (by decide)] at h; exact (getD_no h0 (hC.step (j := 8) (k := 7) (hC.step (j := 9) (k := 8) h (by kernel_rfl)) (by kernel_rfl))).elim
      · intro h _; rw [getD_set_ne false (by decide)] at h; exact (getD_no h0 (hC.step (j := 8) (k := 7) (hC.step (j := 9) (k := 8) (hC.step (j := 10) (k := 9) h (by kernel_rfl)) (by kernel_rfl)) (by kernel_rfl))).elim
      · intro h; rw [getD_set_ne false (by decide)] at h; exact (getD_no h0 (hC.step (j := 8) (k := 7) (hC.step (j := 9) (k := 8) (hC.step (j := 10) (k := 9) (hC.step (j := 11) (k := 10) h (by kernel_rfl)) (by kernel_rfl)) (by kernel_rfl)) (by kernel_rfl))).elim
      · intro h; rw [getD_set_ne false (by decide)] at h; exact (getD_no h0 (hC.step (j := 12) (k := 7) h (by kernel_rfl))).elim
    · refine StepAt.mk (o := { dst := some 13, op := Op.load 3 (Operand.tmp 12), type := 3, pos := _, after := #[{ on := 7, ground := Ground.data }], guard := none }) (ws := [7]) rfl (by kernel_rfl) ?_
      intro L b v hC h0 hA h
      refine h.elim ?_; clear h; intro u4 h
      refine h.elim ?_; clear h; intro u5 h
      refine h.elim ?_; clear h; intro u6 h
      refine h.elim ?_; clear h; intro u7 h
      refine h.elim ?_; clear h; intro u8 h
      refine h.elim ?_; clear h; intro u9 h
      refine h.elim ?_; clear h; intro u10 h
      refine h.elim ?_; clear h; intro u11 h
      refine h.elim ?_; clear h; intro u12 h
      refine h.elim ?_; clear h; intro u13 h
      refine h.elim ?_; clear h; intro u14 h
      refine h.elim ?_; clear h; intro u15 h
      refine h.elim ?_; clear h; intro u16 h
      have hbb := h.1; replace h := h.2; subst hbb
      have hHeld := h.1; replace h := h.2
      have f0 := h.1; replace h := h.2
      have f1 := h.1; replace h := h.2
      have f2 := h.1; replace h := h.2
      have f3 := h.1; replace h := h.2
      have f4 := h.1; replace h := h.2
      have f5 := h.1; replace h := h.2
      have f6 := h.1; replace h := h.2
      have f7 := h.1; replace h := h.2
      have f8 := h.1; replace h := h.2
      have f9 := h.1; replace h := h.2
      have f10 := h.1; replace h := h.2
      have f11 := h.1; replace h := h.2
      have f12 := h; clear h
      intro K hK
      have g7 := f7 (hA 7 (by simp))
      obtain rfl := g7
      rw [if_pos (by kernel_rfl)]
      have q0 := cellB hHeld C0 hg
      have q1 := cellB hHeld C1 hg
      have q2 := cellB hHeld C2 hg
      have q3 := cellB hHeld C3 hg
      have q4 := cellB hHeld C4 hg
      go_simp
      try simp only [Act.put, List.setIfInBounds_toArray, List.set_cons_zero, List.set_cons_succ]
      refine hK.out _ _ ⟨_, _, _, _, _, _, _, _, _, _, _, _, _, rfl, ?_, ?_, ?_, ?_, ?_, ?_, ?_, ?_, ?_, ?_, ?_, ?_, ?_, ?_⟩
      · first | exact hHeld | exact hHeld.trans (hb.mono hHeld.size) | (trace_state; fail)
      · first | exact flag_ne (by decide) f0 | exact fun _ => rfl
      · first | exact flag_ne (by decide) f1 | exact fun _ => rfl
      · intro h h7; rw [getD_set_ne false (by decide)] at h; rw [getD_set_ne true (by decide)] at h7; have := f2 h h7; first | exact this | exact owns_below this hb | (trace_state; fail)
      · first | exact flag_ne (by decide) f3 | exact fun _ => rfl
      · first | exact flag_ne (by decide) f4 | exact fun _ => rfl
      · first | exact flag_ne (by decide) f5 | exact fun _ => rfl
      · first | exact flag_ne (by decide) f6 | exact fun _ => rfl
      · first | exact flag_ne (by decide) f7 | exact fun _ => rfl
      · intro _; first | rfl | (trace_state; fail)
      · intro h; rw [getD_set_ne false (by decide)] at h; exact (getD_no h0 (hC.step (j := 9) (k := 8) h (by kernel_rfl))).elim
      · intro h _; rw [getD_set_ne false (by decide)] at h; exact (getD_no h0 (hC.step (j := 9) (k := 8) (hC.step (j := 10) (k := 9) h (by kernel_rfl)) (by kernel_rfl))).elim
      · intro h; rw [getD_set_ne false (by decide)] at h; exact (getD_no h0 (hC.step (j := 9) (k := 8) (hC.step (j := 10) (k := 9) (hC.step (j := 11) (k := 10) h (by kernel_rfl)) (by kernel_rfl)) (by kernel_rfl))).elim
      · intro h; rw [getD_set_ne false (by decide)] at h; exact (getD_no h0 (hC.step (j := 12) (k := 8) h (by kernel_rfl))).elim
    · refine StepAt.mk (o := { dst := some 14, op := Op.buildSlice 45 3 #[(0, Operand.tmp 9), (1, Operand.tmp 11), (2, Operand.tmp 13)], type := 45, pos := _, after := #[{ on := 4, ground := Ground.data }, { on := 6, ground := Ground.data }, { on := 8, ground := Ground.data }], guard := none }) (ws := [4, 6, 8]) rfl (by kernel_rfl) ?_
      intro L b v hC h0 hA h
      refine h.elim ?_; clear h; intro u4 h
      refine h.elim ?_; clear h; intro u5 h
      refine h.elim ?_; clear h; intro u6 h
      refine h.elim ?_; clear h; intro u7 h
      refine h.elim ?_; clear h; intro u8 h
      refine h.elim ?_; clear h; intro u9 h
      refine h.elim ?_; clear h; intro u10 h
      refine h.elim ?_; clear h; intro u11 h
      refine h.elim ?_; clear h; intro u12 h
      refine h.elim ?_; clear h; intro u13 h
      refine h.elim ?_; clear h; intro u14 h
      refine h.elim ?_; clear h; intro u15 h
      refine h.elim ?_; clear h; intro u16 h
      have hbb := h.1; replace h := h.2; subst hbb
      have hHeld := h.1; replace h := h.2
      have f0 := h.1; replace h := h.2
      have f1 := h.1; replace h := h.2
      have f2 := h.1; replace h := h.2
      have f3 := h.1; replace h := h.2
      have f4 := h.1; replace h := h.2
      have f5 := h.1; replace h := h.2
      have f6 := h.1; replace h := h.2
      have f7 := h.1; replace h := h.2
      have f8 := h.1; replace h := h.2
      have f9 := h.1; replace h := h.2
      have f10 := h.1; replace h := h.2
      have f11 := h.1; replace h := h.2
      have f12 := h; clear h
      intro K hK
      have g4 := f4 (hA 4 (by simp))
      obtain rfl := g4
      have g6 := f6 (hA 6 (by simp))
      obtain rfl := g6
      have g8 := f8 (hA 8 (by simp))
      obtain rfl := g8
      rw [if_pos (by kernel_rfl)]
      have q0 := cellB hHeld C0 hg
      have q1 := cellB hHeld C1 hg
      have q2 := cellB hHeld C2 hg
      have q3 := cellB hHeld C3 hg
      have q4 := cellB hHeld C4 hg
      go_simp
      try simp only [Act.put, List.setIfInBounds_toArray, List.set_cons_zero, List.set_cons_succ]
      have hb : Below v.heap.size v (v.alloc (.cells #[.int .i64 x.t, .int .i64 x.n, .int .i64 x.area] 3)) := (Below.refl _ _).alloc (Nat.le_refl _) _
      refine hK.out _ _ ⟨_, _, _, _, _, _, _, _, _, _, _, _, _, rfl, ?_, ?_, ?_, ?_, ?_, ?_, ?_, ?_, ?_, ?_, ?_, ?_, ?_, ?_⟩
      · first | exact hHeld | exact hHeld.trans (hb.mono hHeld.size) | (trace_state; fail)
      · first | exact flag_ne (by decide) f0 | exact fun _ => rfl
      · first | exact flag_ne (by decide) f1 | exact fun _ => rfl
      · intro h h7; rw [getD_set_ne false (by decide)] at h; rw [getD_set_ne true (by decide)] at h7; have := f2 h h7; first | exact this | exact owns_below this hb | (trace_state; fail)
      · first | exact flag_ne (by decide) f3 | exact fun _ => rfl
      · first | exact flag_ne (by decide) f4 | exact fun _ => rfl
      · first | exact flag_ne (by decide) f5 | exact fun _ => rfl
      · first | exact flag_ne (by decide) f6 | exact fun _ => rfl
      · first | exact flag_ne (by decide) f7 | exact fun _ => rfl
      · first | exact flag_ne (by decide) f8 | exact fun _ => rfl
      · intro _; first | exact ⟨_, rfl, owns_int3 _ _ _ _ hHeld.size⟩ | (trace_state; fail)
      · intro h _; rw [getD_set_ne false (by decide)] at h; exact (getD_no h0 (hC.step (j := 10) (k := 9) h (by kernel_rfl))).elim
      · intro h; rw [getD_set_ne false (by decide)] at h; exact (getD_no h0 (hC.step (j := 10) (k := 9) (hC.step (j := 11) (k := 10) h (by kernel_rfl)) (by kernel_rfl))).elim
      · intro h; rw [getD_set_ne false (by decide)] at h; exact (getD_no h0 (hC.step (j := 12) (k := 9) h (by kernel_rfl))).elim
    · refine StepAt.mk (o := { dst := some 15, op := Op.call { callee := Callee.value (Operand.func 47), args := #[Operand.tmp 14], argTypes := #[45] }, type := 30, pos := _, after := #[{ on := 9, ground := Ground.data }, { on := 2, ground := Ground.chain }], guard := none }) (ws := [9, 2]) rfl (by kernel_rfl) ?_
      intro L b v hC h0 hA h
      refine h.elim ?_; clear h; intro u4 h
      refine h.elim ?_; clear h; intro u5 h
      refine h.elim ?_; clear h; intro u6 h
      refine h.elim ?_; clear h; intro u7 h
      refine h.elim ?_; clear h; intro u8 h
      refine h.elim ?_; clear h; intro u9 h
      refine h.elim ?_; clear h; intro u10 h
      refine h.elim ?_; clear h; intro u11 h
      refine h.elim ?_; clear h; intro u12 h
      refine h.elim ?_; clear h; intro u13 h
      refine h.elim ?_; clear h; intro u14 h
      refine h.elim ?_; clear h; intro u15 h
      refine h.elim ?_; clear h; intro u16 h
      have hbb := h.1; replace h := h.2; subst hbb
      have hHeld := h.1; replace h := h.2
      have f0 := h.1; replace h := h.2
      have f1 := h.1; replace h := h.2
      have f2 := h.1; replace h := h.2
      have f3 := h.1; replace h := h.2
      have f4 := h.1; replace h := h.2
      have f5 := h.1; replace h := h.2
      have f6 := h.1; replace h := h.2
      have f7 := h.1; replace h := h.2
      have f8 := h.1; replace h := h.2
      have f9 := h.1; replace h := h.2
      have f10 := h.1; replace h := h.2
      have f11 := h.1; replace h := h.2
      have f12 := h; clear h
      intro K hK
      have g9 := f9 (hA 9 (by simp))
      obtain ⟨q14, rfl, H14⟩ := g9
      have g2 := f2 (hA 2 (by simp))
      rw [if_pos (by kernel_rfl)]
      have q0 := cellB hHeld C0 hg
      have q1 := cellB hHeld C1 hg
      have q2 := cellB hHeld C2 hg
      have q3 := cellB hHeld C3 hg
      have q4 := cellB hHeld C4 hg
      go_simp
      refine (tab_bytesOf _ [x.t, x.n, x.area] v (row_of_owns H14 (fun z hz => by simp at hz; rcases hz with rfl | rfl | rfl <;> assumption)) (by simp)).mono ?_; rintro e v1 ⟨r, rfl, HO, hb⟩
      go_wp2_with fail
      try simp only [Act.put, List.setIfInBounds_toArray, List.set_cons_zero, List.set_cons_succ]
      refine hK.out _ _ ⟨_, _, _, _, _, _, _, _, _, _, _, _, _, rfl, ?_, ?_, ?_, ?_, ?_, ?_, ?_, ?_, ?_, ?_, ?_, ?_, ?_, ?_⟩
      · first | exact hHeld | exact hHeld.trans (hb.mono hHeld.size) | (trace_state; fail)
      · first | exact flag_ne (by decide) f0 | exact fun _ => rfl
      · first | exact flag_ne (by decide) f1 | exact fun _ => rfl
      · intro h h7; rw [getD_set_ne false (by decide)] at h; rw [getD_set_ne true (by decide)] at h7; have := f2 h h7; first | exact this | exact owns_below this hb | (trace_state; fail)
      · first | exact flag_ne (by decide) f3 | exact fun _ => rfl
      · first | exact flag_ne (by decide) f4 | exact fun _ => rfl
      · first | exact flag_ne (by decide) f5 | exact fun _ => rfl
      · first | exact flag_ne (by decide) f6 | exact fun _ => rfl
      · first | exact flag_ne (by decide) f7 | exact fun _ => rfl
      · first | exact flag_ne (by decide) f8 | exact fun _ => rfl
      · intro h; rw [getD_set_ne false (by decide)] at h; have := f9 h; obtain ⟨q, e1, e2⟩ := this; exact (by first | exact ⟨q, e1, e2⟩ | exact ⟨q, e1, owns_below e2 hb⟩ | exact ⟨q, e1, owns_grown e2 hG (fun g hg => owns_type e2 g2 (by decide) hg)⟩ | (trace_state; fail))
      · intro _ _; first | (exact own_low HO hHeld.size) | (trace_state; fail)
      · intro h; rw [getD_set_ne false (by decide)] at h; exact (getD_no h0 (hC.step (j := 11) (k := 10) h (by kernel_rfl))).elim
      · intro h; rw [getD_set_ne false (by decide)] at h; exact (getD_no h0 (hC.step (j := 12) (k := 10) h (by kernel_rfl))).elim
    · refine StepAt.mk (o := { dst := some 16, op := Op.call { callee := Callee.builtin Builtin.append, args := #[Operand.tmp 7, Operand.tmp 15], argTypes := #[30, 30] }, type := 30, pos := _, after := #[{ on := 2, ground := Ground.data }, { on := 10, ground := Ground.data }, { on := 10, ground := Ground.chain }], guard := none }) (ws := [2, 10, 10]) rfl (by kernel_rfl) ?_
      intro L b v hC h0 hA h
      refine h.elim ?_; clear h; intro u4 h
      refine h.elim ?_; clear h; intro u5 h
      refine h.elim ?_; clear h; intro u6 h
      refine h.elim ?_; clear h; intro u7 h
      refine h.elim ?_; clear h; intro u8 h
      refine h.elim ?_; clear h; intro u9 h
      refine h.elim ?_; clear h; intro u10 h
      refine h.elim ?_; clear h; intro u11 h
      refine h.elim ?_; clear h; intro u12 h
      refine h.elim ?_; clear h; intro u13 h
      refine h.elim ?_; clear h; intro u14 h
      refine h.elim ?_; clear h; intro u15 h
      refine h.elim ?_; clear h; intro u16 h
      have hbb := h.1; replace h := h.2; subst hbb
      have hHeld := h.1; replace h := h.2
      have f0 := h.1; replace h := h.2
      have f1 := h.1; replace h := h.2
      have f2 := h.1; replace h := h.2
      have f3 := h.1; replace h := h.2
      have f4 := h.1; replace h := h.2
      have f5 := h.1; replace h := h.2
      have f6 := h.1; replace h := h.2
      have f7 := h.1; replace h := h.2
      have f8 := h.1; replace h := h.2
      have f9 := h.1; replace h := h.2
      have f10 := h.1; replace h := h.2
      have f11 := h.1; replace h := h.2
      have f12 := h; clear h
      intro K hK
      have g2 := f2 (hA 2 (by simp)) h0
      have g10 := f10 (hA 10 (by simp)) h0
      rw [if_pos (by kernel_rfl)]
      have q0 := cellB hHeld C0 hg
      have q1 := cellB hHeld C1 hg
      have q2 := cellB hHeld C2 hg
      have q3 := cellB hHeld C3 hg
      have q4 := cellB hHeld C4 hg
      refine wp_append_src (.tmp 7) (.tmp 15) 30 rfl W0.heap.size 5 i (.int .u8 0) 1 1 Tryd.underlying30 hi hz hsize hby rfl (by omega) u7 M _ rfl g2 u15 3 _ rfl (src_own g10) rfl (bytesV_one _) (by unfold maxLen; omega) (by omega) hHeld.size ?_; intro v' w' HO hG
      try simp only [Act.put, List.setIfInBounds_toArray, List.set_cons_zero, List.set_cons_succ]
      refine hK.out _ _ ⟨_, _, _, _, _, _, _, _, _, _, _, _, _, rfl, ?_, ?_, ?_, ?_, ?_, ?_, ?_, ?_, ?_, ?_, ?_, ?_, ?_, ?_⟩
      · exact grown3 hHeld hHeld.size g2 hG
      · first | exact flag_ne (by decide) f0 | exact fun _ => rfl
      · first | exact flag_ne (by decide) f1 | exact fun _ => rfl
      · intro _ h7; rw [getD_set_self] at h7; cases h7
      · first | exact flag_ne (by decide) f3 | exact fun _ => rfl
      · first | exact flag_ne (by decide) f4 | exact fun _ => rfl
      · first | exact flag_ne (by decide) f5 | exact fun _ => rfl
      · first | exact flag_ne (by decide) f6 | exact fun _ => rfl
      · first | exact flag_ne (by decide) f7 | exact fun _ => rfl
      · first | exact flag_ne (by decide) f8 | exact fun _ => rfl
      · intro h; rw [getD_set_ne false (by decide)] at h; have := f9 h; obtain ⟨q, e1, e2⟩ := this; exact (by first | exact ⟨q, e1, e2⟩ | exact ⟨q, e1, owns_below e2 hb⟩ | exact ⟨q, e1, owns_grown e2 hG (fun g hg => owns_type e2 g2 (by decide) hg)⟩ | (trace_state; fail))
      · intro _ h7; rw [getD_set_self] at h7; cases h7
      · intro _; first | exact HO | (trace_state; fail)
      · intro h; rw [getD_set_ne false (by decide)] at h; exact (getD_no h0 (hC.step (j := 12) (k := 11) h (by kernel_rfl))).elim
    · refine StepAt.mk (o := { dst := some 4, op := Op.assign (Operand.tmp 16), type := 30, pos := _, after := #[{ on := 11, ground := Ground.data }, { on := 11, ground := Ground.chain }, { on := 0, ground := Ground.phase }, { on := 1, ground := Ground.phase }, { on := 2, ground := Ground.phase }, { on := 3, ground := Ground.phase }, { on := 4, ground := Ground.phase }, { on := 5, ground := Ground.phase }, { on := 6, ground := Ground.phase }, { on := 7, ground := Ground.phase }, { on := 8, ground := Ground.phase }, { on := 9, ground := Ground.phase }, { on := 10, ground := Ground.phase }, { on := 11, ground := Ground.phase }], guard := none }) (ws := [11, 11, 0, 1, 2, 3, 4, 5, 6, 7, 8, 9, 10, 11]) rfl (by kernel_rfl) ?_
      intro L b v hC h0 hA h
      refine h.elim ?_; clear h; intro u4 h
      refine h.elim ?_; clear h; intro u5 h
      refine h.elim ?_; clear h; intro u6 h
      refine h.elim ?_; clear h; intro u7 h
      refine h.elim ?_; clear h; intro u8 h
      refine h.elim ?_; clear h; intro u9 h
      refine h.elim ?_; clear h; intro u10 h
      refine h.elim ?_; clear h; intro u11 h
      refine h.elim ?_; clear h; intro u12 h
      refine h.elim ?_; clear h; intro u13 h
      refine h.elim ?_; clear h; intro u14 h
      refine h.elim ?_; clear h; intro u15 h
      refine h.elim ?_; clear h; intro u16 h
      have hbb := h.1; replace h := h.2; subst hbb
      have hHeld := h.1; replace h := h.2
      have f0 := h.1; replace h := h.2
      have f1 := h.1; replace h := h.2
      have f2 := h.1; replace h := h.2
      have f3 := h.1; replace h := h.2
      have f4 := h.1; replace h := h.2
      have f5 := h.1; replace h := h.2
      have f6 := h.1; replace h := h.2
      have f7 := h.1; replace h := h.2
      have f8 := h.1; replace h := h.2
      have f9 := h.1; replace h := h.2
      have f10 := h.1; replace h := h.2
      have f11 := h.1; replace h := h.2
      have f12 := h; clear h
      intro K hK
      have g11 := f11 (hA 11 (by simp))
      have g0 := f0 (hA 0 (by simp))
      obtain rfl := g0
      have g1 := f1 (hA 1 (by simp))
      obtain rfl := g1
      have g2 := f2 (hA 2 (by simp))
      have g3 := f3 (hA 3 (by simp))
      obtain rfl := g3
      have g4 := f4 (hA 4 (by simp))
      obtain rfl := g4
      have g5 := f5 (hA 5 (by simp))
      obtain rfl := g5
      have g6 := f6 (hA 6 (by simp))
      obtain rfl := g6
      have g7 := f7 (hA 7 (by simp))
      obtain rfl := g7
      have g8 := f8 (hA 8 (by simp))
      obtain rfl := g8
      have g9 := f9 (hA 9 (by simp))
      obtain ⟨q14, rfl, H14⟩ := g9
      have g10 := f10 (hA 10 (by simp))
      rw [if_pos (by kernel_rfl)]
      have q0 := cellB hHeld C0 hg
      have q1 := cellB hHeld C1 hg
      have q2 := cellB hHeld C2 hg
      have q3 := cellB hHeld C3 hg
      have q4 := cellB hHeld C4 hg
      go_simp
      try simp only [Act.put, List.setIfInBounds_toArray, List.set_cons_zero, List.set_cons_succ]
      refine hK.out _ _ ⟨_, _, _, _, _, _, _, _, _, _, _, _, _, rfl, ?_, ?_, ?_, ?_, ?_, ?_, ?_, ?_, ?_, ?_, ?_, ?_, ?_, ?_⟩
      · first | exact hHeld | exact hHeld.trans (hb.mono hHeld.size) | (trace_state; fail)
      · first | exact flag_ne (by decide) f0 | exact fun _ => rfl
      · first | exact flag_ne (by decide) f1 | exact fun _ => rfl
      · intro _ h7; rw [getD_set_ne true (by decide)] at h7; exact (getD_no h7 (hA 11 (by simp))).elim
      · first | exact flag_ne (by decide) f3 | exact fun _ => rfl
      · first | exact flag_ne (by decide) f4 | exact fun _ => rfl
      · first | exact flag_ne (by decide) f5 | exact fun _ => rfl
      · first | exact flag_ne (by decide) f6 | exact fun _ => rfl
      · first | exact flag_ne (by decide) f7 | exact fun _ => rfl
      · first | exact flag_ne (by decide) f8 | exact fun _ => rfl
      · intro h; rw [getD_set_ne false (by decide)] at h; have := f9 h; obtain ⟨q, e1, e2⟩ := this; exact (by first | exact ⟨q, e1, e2⟩ | exact ⟨q, e1, owns_below e2 hb⟩ | exact ⟨q, e1, owns_grown e2 hG (fun g hg => owns_type e2 g2 (by decide) hg)⟩ | (trace_state; fail))
      · intro _ h7; rw [getD_set_ne true (by decide)] at h7; exact (getD_no h7 (hA 11 (by simp))).elim
      · intro h; rw [getD_set_ne false (by decide)] at h; have := f11 h; first | exact this | exact owns_below this hb | (trace_state; fail)
      · intro _; first | exact g11 | (trace_state; fail)
  intro L b v hA h
  refine h.elim ?_; clear h; intro u4 h
  refine h.elim ?_; clear h; intro u5 h
  refine h.elim ?_; clear h; intro u6 h
  refine h.elim ?_; clear h; intro u7 h
  refine h.elim ?_; clear h; intro u8 h
  refine h.elim ?_; clear h; intro u9 h
  refine h.elim ?_; clear h; intro u10 h
  refine h.elim ?_; clear h; intro u11 h
  refine h.elim ?_; clear h; intro u12 h
  refine h.elim ?_; clear h; intro u13 h
  refine h.elim ?_; clear h; intro u14 h
  refine h.elim ?_; clear h; intro u15 h
  refine h.elim ?_; clear h; intro u16 h
  have hbb := h.1; replace h := h.2; subst hbb
  have hHeld := h.1; replace h := h.2
  have f0 := h.1; replace h := h.2
  have f1 := h.1; replace h := h.2
  have f2 := h.1; replace h := h.2
  have f3 := h.1; replace h := h.2
  have f4 := h.1; replace h := h.2
  have f5 := h.1; replace h := h.2
  have f6 := h.1; replace h := h.2
  have f7 := h.1; replace h := h.2
  have f8 := h.1; replace h := h.2
  have f9 := h.1; replace h := h.2
  have f10 := h.1; replace h := h.2
  have f11 := h.1; replace h := h.2
  have f12 := h; clear h
  have g0 := f0 (hA 0 (by omega))
  clear f0
  obtain rfl := g0
  have g1 := f1 (hA 1 (by omega))
  clear f1
  obtain rfl := g1
  clear f2
  have g3 := f3 (hA 3 (by omega))
  clear f3
  obtain rfl := g3
  have g4 := f4 (hA 4 (by omega))
  clear f4
  obtain rfl := g4
  have g5 := f5 (hA 5 (by omega))
  clear f5
  obtain rfl := g5
  have g6 := f6 (hA 6 (by omega))
  clear f6
  obtain rfl := g6
  have g7 := f7 (hA 7 (by omega))
  clear f7
  obtain rfl := g7
  have g8 := f8 (hA 8 (by omega))
  clear f8
  obtain rfl := g8
  have g9 := f9 (hA 9 (by omega))
  clear f9
  obtain ⟨q14, rfl, H14⟩ := g9
  clear f10
  have g11 := f11 (hA 11 (by omega))
  clear f11
  have g12 := f12 (hA 12 (by omega))
  clear f12
  clear hA
  exact ⟨rfl, _, _, _, _, _, _, _, _, _, _, _, _, _, rfl, hHeld, g12⟩
end Go.Proofs.YtjikkipdmonndaaDoor

/- Layer 14: a variable's row as bytes: the second region. -/
namespace Go.Proofs.YtjikkipdmonndaaDoor
open Go.RowKit
set_option linter.unusedSimpArgs false
set_option linter.unusedVariables false
set_option maxRecDepth 100000 in
set_option maxHeartbeats 4000000 in
theorem putVar_r2 (W0 : World) (g : Nat) (x : Vr) (i : TypeInfo) (hi : Tryd.prog.info? 5 = some i) (hz : i.zero = some (.int .u8 0)) (hsize : i.size = 1) (hby : i.bytes = 1) (w1 : I64 x.t) (w2 : I64 x.n) (w3 : I64 x.area) (C0 : W0.cell? ⟨g, 0, none⟩ = some (.string ⟨x.name.toArray⟩)) (C1 : W0.cell? ⟨g, 1, none⟩ = some (.int .i64 x.t)) (C2 : W0.cell? ⟨g, 2, none⟩ = some (.int .i64 x.n)) (C3 : W0.cell? ⟨g, 3, none⟩ = some (.int .i64 x.area)) (C4 : W0.cell? ⟨g, 4, none⟩ = some (.int .i64 x.init)) (hg : g < W0.heap.size) (r4 : Value) (l : List UInt8) (hl : l.length ≤ 2000) (B0 : Nat) (HO4 : W0.ownsRow B0 5 1 r4 l.length (bytesV l)) (hq : ((x.name.length : Int) ≤ 255) = True) (t0 t2 t3 t5 t6 t7 t8 t9 t10 t11 t12 t13 t14 t15 t16 t17 t18 t19 t20 t21 t22 t23 t24 t25 t26 t27 t28 t29 t30 t31 t32 t33 t34 : Value) :
    (Code.region 2 #[{ dst := some 17, op := Op.move (Operand.tmp 4), type := 30, pos := "tab.go:92", after := #[], guard := none }, { dst := some 18, op := Op.fieldAddr 41 (Operand.tmp 1) 4, type := 0, pos := "tab.go:92", after := #[], guard := none }, { dst := some 19, op := Op.load 3 (Operand.tmp 18), type := 3, pos := "tab.go:92", after := #[{ on := 1, ground := Ground.data }], guard := none }, { dst := some 20, op := Op.call { callee := Callee.value (Operand.func 22), args := #[Operand.tmp 17, Operand.const (Value.int IntKind.i64 8), Operand.tmp 19], argTypes := #[30, 3, 3] }, type := 30, pos := "tab.go:92", after := #[{ on := 0, ground := Ground.data }, { on := 2, ground := Ground.data }], guard := none }, { dst := some 21, op := Op.fieldAddr 41 (Operand.tmp 1) 0, type := 0, pos := "tab.go:92", after := #[], guard := none }, { dst := some 22, op := Op.load 9 (Operand.tmp 21), type := 9, pos := "tab.go:92", after := #[{ on := 4, ground := Ground.data }], guard := none }, { dst := some 23, op := Op.call { callee := Callee.builtin Builtin.len, args := #[Operand.tmp 22], argTypes := #[9] }, type := 3, pos := "tab.go:92", after := #[{ on := 5, ground := Ground.data }], guard := none }, { dst := some 24, op := Op.binOp BinOp.leq 3 (Operand.tmp 23) (Operand.const (Value.int IntKind.i64 255)) 3, type := 4, pos := "tab.go:92", after := #[{ on := 6, ground := Ground.data }], guard := none }, { dst := some 25, op := Op.move (Operand.tmp 24), type := 4, pos := "tab.go:92", after := #[{ on := 7, ground := Ground.data }, { on := 3, ground := Ground.chain }], guard := none }, { dst := some 26, op := Op.fieldAddr 41 (Operand.tmp 1) 1, type := 0, pos := "tab.go:92", after := #[{ on := 8, ground := Ground.guard }], guard := some (8, true) }, { dst := some 27, op := Op.load 3 (Operand.tmp 26), type := 3, pos := "tab.go:92", after := #[{ on := 9, ground := Ground.data }, { on := 8, ground := Ground.guard }], guard := some (8, true) }, { dst := some 28, op := Op.fieldAddr 41 (Operand.tmp 1) 2, type := 0, pos := "tab.go:92", after := #[{ on := 8, ground := Ground.guard }], guard := some (8, true) }, { dst := some 29, op := Op.load 3 (Operand.tmp 28), type := 3, pos := "tab.go:92", after := #[{ on := 11, ground := Ground.data }, { on := 8, ground := Ground.guard }], guard := some (8, true) }, { dst := some 30, op := Op.fieldAddr 41 (Operand.tmp 1) 3, type := 0, pos := "tab.go:92", after := #[{ on := 8, ground := Ground.guard }], guard := some (8, true) }, { dst := some 31, op := Op.load 3 (Operand.tmp 30), type := 3, pos := "tab.go:92", after := #[{ on := 13, ground := Ground.data }, { on := 8, ground := Ground.guard }], guard := some (8, true) }, { dst := some 32, op := Op.buildSlice 45 3 #[(0, Operand.tmp 27), (1, Operand.tmp 29), (2, Operand.tmp 31)], type := 45, pos := "tab.go:92", after := #[{ on := 10, ground := Ground.data }, { on := 12, ground := Ground.data }, { on := 14, ground := Ground.data }, { on := 8, ground := Ground.guard }], guard := some (8, true) }, { dst := some 33, op := Op.call { callee := Callee.value (Operand.func 48), args := #[Operand.tmp 32], argTypes := #[45] }, type := 4, pos := "tab.go:92", after := #[{ on := 15, ground := Ground.data }, { on := 8, ground := Ground.chain }, { on := 8, ground := Ground.guard }], guard := some (8, true) }, { dst := some 34, op := Op.pick (Operand.tmp 25) (Operand.tmp 33) (Operand.const (Value.bool false)), type := 4, pos := "tab.go:92", after := #[{ on := 8, ground := Ground.data }, { on := 16, ground := Ground.data }, { on := 18, ground := Ground.gcOnly Departure.lateStores }], guard := none }, { dst := some 2, op := Op.assign (Operand.tmp 20), type := 30, pos := "tab.go:92", after := #[{ on := 3, ground := Ground.data }, { on := 16, ground := Ground.chain }, { on := 0, ground := Ground.phase }, { on := 1, ground := Ground.phase }, { on := 2, ground := Ground.phase }, { on := 3, ground := Ground.phase }, { on := 4, ground := Ground.textOnly Departure.lateStores }, { on := 5, ground := Ground.textOnly Departure.lateStores }, { on := 6, ground := Ground.textOnly Departure.lateStoresUnsure }, { on := 7, ground := Ground.textOnly Departure.lateStores }, { on := 8, ground := Ground.textOnly Departure.lateStores }, { on := 9, ground := Ground.textOnly Departure.lateStores }, { on := 10, ground := Ground.textOnly Departure.lateStores }, { on := 11, ground := Ground.textOnly Departure.lateStores }, { on := 12, ground := Ground.textOnly Departure.lateStores }, { on := 13, ground := Ground.textOnly Departure.lateStores }, { on := 14, ground := Ground.textOnly Departure.lateStores }, { on := 15, ground := Ground.textOnly Departure.lateStores }, { on := 16, ground := Ground.textOnly Departure.lateStoresUnsure }, { on := 17, ground := Ground.textOnly Departure.lateStores }], guard := none }, { dst := some 3, op := Op.assign (Operand.tmp 34), type := 4, pos := "tab.go:92", after := #[{ on := 17, ground := Ground.data }, { on := 18, ground := Ground.chain }, { on := 0, ground := Ground.phase }, { on := 1, ground := Ground.phase }, { on := 2, ground := Ground.phase }, { on := 3, ground := Ground.phase }, { on := 4, ground := Ground.phase }, { on := 5, ground := Ground.phase }, { on := 6, ground := Ground.phase }, { on := 7, ground := Ground.phase }, { on := 8, ground := Ground.phase }, { on := 9, ground := Ground.phase }, { on := 10, ground := Ground.phase }, { on := 11, ground := Ground.phase }, { on := 12, ground := Ground.phase }, { on := 13, ground := Ground.phase }, { on := 14, ground := Ground.phase }, { on := 15, ground := Ground.phase }, { on := 16, ground := Ground.phase }, { on := 17, ground := Ground.phase }, { on := 18, ground := Ground.phase }], guard := none }] true).wp Tryd.prog (fun e b v => e = Exit.normal ∧ ∃ u2 u3 u17 u18 u19 u20 u21 u22 u23 u24 u25 u26 u27 u28 u29 u30 u31 u32 u33 u34 : Value, b = ⟨#[t0, .pointer (some ⟨g, 0, none⟩), u2, u3, r4, t5, t6, t7, t8, t9, t10, t11, t12, t13, t14, t15, t16, u17, u18, u19, u20, u21, u22, u23, u24, u25, u26, u27, u28, u29, u30, u31, u32, u33, u34], []⟩ ∧ Below W0.heap.size W0 v ∧ (v.ownsRow W0.heap.size 5 1 u2 (l.length + 8) (bytesV (l ++ putL 8 x.init))) ∧ (u3 = .bool (fitB x.t && (fitB x.n && fitB x.area)))) ⟨#[t0, .pointer (some ⟨g, 0, none⟩), t2, t3, r4, t5, t6, t7, t8, t9, t10, t11, t12, t13, t14, t15, t16, t17, t18, t19, t20, t21, t22, t23, t24, t25, t26, t27, t28, t29, t30, t31, t32, t33, t34], []⟩ W0 := by
  refine wp_region_facts (n := 20) (fun L b v => ∃ u2 u3 u17 u18 u19 u20 u21 u22 u23 u24 u25 u26 u27 u28 u29 u30 u31 u32 u33 u34 : Value, b = ⟨#[t0, .pointer (some ⟨g, 0, none⟩), u2, u3, r4, t5, t6, t7, t8, t9, t10, t11, t12, t13, t14, t15, t16, u17, u18, u19, u20, u21, u22, u23, u24, u25, u26, u27, u28, u29, u30, u31, u32, u33, u34], []⟩ ∧ Below W0.heap.size W0 v ∧ (L.getD 0 false = true → u17 = r4) ∧ (L.getD 1 false = true → u18 = .pointer (some ⟨g, 4, none⟩)) ∧ (L.getD 2 false = true → u19 = .int .i64 x.init) ∧ (L.getD 3 false = true → v.ownsRow W0.heap.size 5 1 u20 (l.length + 8) (bytesV (l ++ putL 8 x.init))) ∧ (L.getD 4 false = true → u21 = .pointer (some ⟨g, 0, none⟩)) ∧ (L.getD 5 false = true → u22 = .string ⟨x.name.toArray⟩) ∧ (L.getD 6 false = true → u23 = .int .i64 x.name.length) ∧ (L.getD 7 false = true → u24 = .bool true) ∧ (L.getD 8 false = true → u25 = .bool true) ∧ (L.getD 9 false = true → u26 = .pointer (some ⟨g, 1, none⟩)) ∧ (L.getD 10 false = true → u27 = .int .i64 x.t) ∧ (L.getD 11 false = true → u28 = .pointer (some ⟨g, 2, none⟩)) ∧ (L.getD 12 false = true → u29 = .int .i64 x.n) ∧ (L.getD 13 false = true → u30 = .pointer (some ⟨g, 3, none⟩)) ∧ (L.getD 14 false = true → u31 = .int .i64 x.area) ∧ (L.getD 15 false = true → ∃ q, u32 = .slice (some ⟨q, 0, none⟩) 3 3 ∧ v.ownsRow W0.heap.size 3 1 (.slice (some ⟨q, 0, none⟩) 3 3) 3 [.int .i64 x.t, .int .i64 x.n, .int .i64 x.area]) ∧ (L.getD 16 false = true → u33 = .bool (fitB x.t && (fitB x.n && fitB x.area))) ∧ (L.getD 17 false = true → u34 = .bool (fitB x.t && (fitB x.n && fitB x.area))) ∧ (L.getD 18 false = true → v.ownsRow W0.heap.size 5 1 u2 (l.length + 8) (bytesV (l ++ putL 8 x.init))) ∧ (L.getD 19 false = true → u3 = .bool (fitB x.t && (fitB x.n && fitB x.area)))) (by kernel_rfl) (by kernel_rfl) (by kernel_rfl) ?_ ?_ ?_
  · refine ⟨_, _, _, _, _, _, _, _, _, _, _, _, _, _, _, _, _, _, _, _, rfl, (Below.refl _ _).drew, flag_new, flag_new, flag_new, flag_new, flag_new, flag_new, flag_new, flag_new, flag_new, flag_new, flag_new, flag_new, flag_new, flag_new, flag_new, flag_new, flag_new, flag_new, flag_new, flag_new⟩
  · refine AllSteps.succ (AllSteps.succ (AllSteps.succ (AllSteps.succ (AllSteps.succ (AllSteps.succ (AllSteps.succ (AllSteps.succ (AllSteps.succ (AllSteps.succ (AllSteps.succ (AllSteps.succ (AllSteps.succ (AllSteps.succ (AllSteps.succ (AllSteps.succ (AllSteps.succ (AllSteps.succ (AllSteps.succ (AllSteps.succ AllSteps.zero ?_) ?_) ?_) ?_) ?_) ?_) ?_) ?_) ?_) ?_) ?_) ?_) ?_) ?_) ?_) ?_) ?_) ?_) ?_) ?_
    · refine StepAt.mk (o := { dst := some 17, op := Op.move (Operand.tmp 4), type := 30, pos := _, after := #[], guard := none }) (ws := []) rfl (by kernel_rfl) ?_
      intro L b v hC h0 hA h
      refine h.elim ?_; clear h; intro u2 h
      refine h.elim ?_; clear h; intro u3 h
      refine h.elim ?_; clear h; intro u17 h
      refine h.elim ?_; clear h; intro u18 h
      refine h.elim ?_; clear h; intro u19 h
      refine h.elim ?_; clear h; intro u20 h
      refine h.elim ?_; clear h; intro u21 h
      refine h.elim ?_; clear h; intro u22 h
      refine h.elim ?_; clear h; intro u23 h
      refine h.elim ?_; clear h; intro u24 h
      refine h.elim ?_; clear h; intro u25 h
      refine h.elim ?_; clear h; intro u26 h
      refine h.elim ?_; clear h; intro u27 h
      refine h.elim ?_; clear h; intro u28 h
      refine h.elim ?_; clear h; intro u29 h
      refine h.elim ?_; clear h; intro u30 h
      refine h.elim ?_; clear h; intro u31 h
      refine h.elim ?_; clear h; intro u32 h
      refine h.elim ?_; clear h; intro u33 h
      refine h.elim ?_; clear h; intro u34 h
      have hbb := h.1; replace h := h.2; subst hbb
      have hHeld := h.1; replace h := h.2
      have f0 := h.1; replace h := h.2
      have f1 := h.1; replace h := h.2
      have f2 := h.1; replace h := h.2
      have f3 := h.1; replace h := h.2
      have f4 := h.1; replace h := h.2
      have f5 := h.1; replace h := h.2
      have f6 := h.1; replace h := h.2
      have f7 := h.1; replace h := h.2
      have f8 := h.1; replace h := h.2
      have f9 := h.1; replace h := h.2
      have f10 := h.1; replace h := h.2
      have f11 := h.1; replace h := h.2
      have f12 := h.1; replace h := h.2
      have f13 := h.1; replace h := h.2
      have f14 := h.1; replace h := h.2
      have f15 := h.1; replace h := h.2
      have f16 := h.1; replace h := h.2
      have f17 := h.1; replace h := h.2
      have f18 := h.1; replace h := h.2
      have f19 := h; clear h
      intro K hK
      rw [if_pos (by kernel_rfl)]
      have q0 := cellB hHeld C0 hg
      have q1 := cellB hHeld C1 hg
      have q2 := cellB hHeld C2 hg
      have q3 := cellB hHeld C3 hg
      have q4 := cellB hHeld C4 hg
      go_simp
      try simp only [Act.put, List.setIfInBounds_toArray, List.set_cons_zero, List.set_cons_succ]
      refine hK.out _ _ ⟨_, _, _, _, _, _, _, _, _, _, _, _, _, _, _, _, _, _, _, _, rfl, ?_, ?_, ?_, ?_, ?_, ?_, ?_, ?_, ?_, ?_, ?_, ?_, ?_, ?_, ?_, ?_, ?_, ?_, ?_, ?_, ?_⟩
      · first | exact hHeld | exact hHeld.trans (hb.mono hHeld.size) | (trace_state; fail)
      · intro _; first | rfl | (trace_state; fail)
      · first | exact flag_ne (by decide) f1 | exact fun _ => rfl
      · first | exact flag_ne (by decide) f2 | exact fun _ => rfl
      · intro h; rw [getD_set_ne false (by decide)] at h; exact (getD_no h0 (hC.step (j := 3) (k := 0) h (by kernel_rfl))).elim
      · first | exact flag_ne (by decide) f4 | exact fun _ => rfl
      · first | exact flag_ne (by decide) f5 | exact fun _ => rfl
      · first | exact flag_ne (by decide) f6 | exact fun _ => rfl
      · first | exact flag_ne (by decide) f7 | exact fun _ => rfl
      · first | exact flag_ne (by decide) f8 | exact fun _ => rfl
      · first | exact flag_ne (by decide) f9 | exact fun _ => rfl
      · first | exact flag_ne (by decide) f10 | exact fun _ => rfl
      · first | exact flag_ne (by decide) f11 | exact fun _ => rfl
      · first | exact flag_ne (by decide) f12 | exact fun _ => rfl
      · first | exact flag_ne (by decide) f13 | exact fun _ => rfl
      · first | exact flag_ne (by decide) f14 | exact fun _ => rfl
      · intro h; rw [getD_set_ne false (by decide)] at h; exact (getD_no h0 (hC.step (j := 3) (k := 0) (hC.step (j := 8) (k := 3) (hC.step (j := 15) (k := 8) h (by kernel_rfl)) (by kernel_rfl)) (by kernel_rfl))).elim
      · first | exact flag_ne (by decide) f16 | exact fun _ => rfl
      · first | exact flag_ne (by decide) f17 | exact fun _ => rfl
      · intro h; rw [getD_set_ne false (by decide)] at h; exact (getD_no h0 (hC.step (j := 18) (k := 0) h (by kernel_rfl))).elim
      · first | exact flag_ne (by decide) f19 | exact fun _ => rfl
    · refine StepAt.mk (o := { dst := some 18, op := Op.fieldAddr 41 (Operand.tmp 1) 4, type := 0, pos := _, after := #[], guard := none }) (ws := []) rfl (by kernel_rfl) ?_
      intro L b v hC h0 hA h
      refine h.elim ?_; clear h; intro u2 h
      refine h.elim ?_; clear h; intro u3 h
      refine h.elim ?_; clear h; intro u17 h
      refine h.elim ?_; clear h; intro u18 h
      refine h.elim ?_; clear h; intro u19 h
      refine h.elim ?_; clear h; intro u20 h
      refine h.elim ?_; clear h; intro u21 h
      refine h.elim ?_; clear h; intro u22 h
      refine h.elim ?_; clear h; intro u23 h
      refine h.elim ?_; clear h; intro u24 h
      refine h.elim ?_; clear h; intro u25 h
      refine h.elim ?_; clear h; intro u26 h
      refine h.elim ?_; clear h; intro u27 h
      refine h.elim ?_; clear h; intro u28 h
      refine h.elim ?_; clear h; intro u29 h
      refine h.elim ?_; clear h; intro u30 h
      refine h.elim ?_; clear h; intro u31 h
      refine h.elim ?_; clear h; intro u32 h
      refine h.elim ?_; clear h; intro u33 h
      refine h.elim ?_; clear h; intro u34 h
      have hbb := h.1; replace h := h.2; subst hbb
      have hHeld := h.1; replace h := h.2
      have f0 := h.1; replace h := h.2
      have f1 := h.1; replace h := h.2
      have f2 := h.1; replace h := h.2
      have f3 := h.1; replace h := h.2
      have f4 := h.1; replace h := h.2
      have f5 := h.1; replace h := h.2
      have f6 := h.1; replace h := h.2
      have f7 := h.1; replace h := h.2
      have f8 := h.1; replace h := h.2
      have f9 := h.1; replace h := h.2
      have f10 := h.1; replace h := h.2
      have f11 := h.1; replace h := h.2
      have f12 := h.1; replace h := h.2
      have f13 := h.1; replace h := h.2
      have f14 := h.1; replace h := h.2
      have f15 := h.1; replace h := h.2
      have f16 := h.1; replace h := h.2
      have f17 := h.1; replace h := h.2
      have f18 := h.1; replace h := h.2
      have f19 := h; clear h
      intro K hK
      rw [if_pos (by kernel_rfl)]
      have q0 := cellB hHeld C0 hg
      have q1 := cellB hHeld C1 hg
      have q2 := cellB hHeld C2 hg
      have q3 := cellB hHeld C3 hg
      have q4 := cellB hHeld C4 hg
      go_simp
      try simp only [Act.put, List.setIfInBounds_toArray, List.set_cons_zero, List.set_cons_succ]
      refine hK.out _ _ ⟨_, _, _, _, _, _, _, _, _, _, _, _, _, _, _, _, _, _, _, _, rfl, ?_, ?_, ?_, ?_, ?_, ?_, ?_, ?_, ?_, ?_, ?_, ?_, ?_, ?_, ?_, ?_, ?_, ?_, ?_, ?_, ?_⟩
      · first | exact hHeld | exact hHeld.trans (hb.mono hHeld.size) | (trace_state; fail)
      · first | exact flag_ne (by decide) f0 | exact fun _ => rfl
      · intro _; first | rfl | (trace_state; fail)
      · first | exact flag_ne (by decide) f2 | exact fun _ => rfl
      · intro h; rw [getD_set_ne false (by decide)] at h; exact (getD_no h0 (hC.step (j := 2) (k := 1) (hC.step (j := 3) (k := 2) h (by kernel_rfl)) (by kernel_rfl))).elim
      · first | exact flag_ne (by decide) f4 | exact fun _ => rfl
      · first | exact flag_ne (by decide) f5 | exact fun _ => rfl
      · first | exact flag_ne (by decide) f6 | exact fun _ => rfl
      · first | exact flag_ne (by decide) f7 | exact fun _ => rfl
      · first | exact flag_ne (by decide) f8 | exact fun _ => rfl
      · first | exact flag_ne (by decide) f9 | exact fun _ => rfl
      · first | exact flag_ne (by decide) f10 | exact fun _ => rfl
      · first | exact flag_ne (by decide) f11 | exact fun _ => rfl
      · first | exact flag_ne (by decide) f12 | exact fun _ => rfl
      · first | exact flag_ne (by decide) f13 | exact fun _ => rfl
      · first | exact flag_ne (by decide) f14 | exact fun _ => rfl
      · intro h; rw [getD_set_ne false (by decide)] at h; exact (getD_no h0 (hC.step (j := 2) (k := 1) (hC.step (j := 3) (k := 2) (hC.step (j := 8) (k := 3) (hC.step (j := 15) (k := 8) h (by kernel_rfl)) (by kernel_rfl)) (by kernel_rfl)) (by kernel_rfl))).elim
      · first | exact flag_ne (by decide) f16 | exact fun _ => rfl
      · first | exact flag_ne (by decide) f17 | exact fun _ => rfl
      · intro h; rw [getD_set_ne false (by decide)] at h; exact (getD_no h0 (hC.step (j := 18) (k := 1) h (by kernel_rfl))).elim
      · first | exact flag_ne (by decide) f19 | exact fun _ => rfl
    · refine StepAt.mk (o := { dst := some 19, op := Op.load 3 (Operand.tmp 18), type := 3, pos := _, after := #[{ on := 1, ground := Ground.data }], guard := none }) (ws := [1]) rfl (by kernel_rfl) ?_
      intro L b v hC h0 hA h
      refine h.elim ?_; clear h; intro u2 h
      refine h.elim ?_; clear h; intro u3 h
      refine h.elim ?_; clear h; intro u17 h
      refine h.elim ?_; clear h; intro u18 h
      refine h.elim ?_; clear h; intro u19 h
      refine h.elim ?_; clear h; intro u20 h
      refine h.elim ?_; clear h; intro u21 h
      refine h.elim ?_; clear h; intro u22 h
      refine h.elim ?_; clear h; intro u23 h
      refine h.elim ?_; clear h; intro u24 h
      refine h.elim ?_; clear h; intro u25 h
      refine h.elim ?_; clear h; intro u26 h
      refine h.elim ?_; clear h; intro u27 h
      refine h.elim ?_; clear h; intro u28 h
      refine h.elim ?_; clear h; intro u29 h
      refine h.elim ?_; clear h; intro u30 h
      refine h.elim ?_; clear h; intro u31 h
      refine h.elim ?_; clear h; intro u32 h
      refine h.elim ?_; clear h; intro u33 h
      refine h.elim ?_; clear h; intro u34 h
      have hbb := h.1; replace h := h.2; subst hbb
      have hHeld := h.1; replace h := h.2
      have f0 := h.1; replace h := h.2
      have f1 := h.1; replace h := h.2
      have f2 := h.1; replace h := h.2
      have f3 := h.1; replace h := h.2
      have f4 := h.1; replace h := h.2
      have f5 := h.1; replace h := h.2
      have f6 := h.1; replace h := h.2
      have f7 := h.1; replace h := h.2
      have f8 := h.1; replace h := h.2
      have f9 := h.1; replace h := h.2
      have f10 := h.1; replace h := h.2
      have f11 := h.1; replace h := h.2
      have f12 := h.1; replace h := h.2
      have f13 := h.1; replace h := h.2
      have f14 := h.1; replace h := h.2
      have f15 := h.1; replace h := h.2
      have f16 := h.1; replace h := h.2
      have f17 := h.1; replace h := h.2
      have f18 := h.1; replace h := h.2
      have f19 := h; clear h
      intro K hK
      have g1 := f1 (hA 1 (by simp))
      obtain rfl := g1
      rw [if_pos (by kernel_rfl)]
      have q0 := cellB hHeld C0 hg
      have q1 := cellB hHeld C1 hg
      have q2 := cellB hHeld C2 hg
      have q3 := cellB hHeld C3 hg
      have q4 := cellB hHeld C4 hg
      go_simp
      try simp only [Act.put, List.setIfInBounds_toArray, List.set_cons_zero, List.set_cons_succ]
      refine hK.out _ _ ⟨_, _, _, _, _, _, _, _, _, _, _, _, _, _, _, _, _, _, _, _, rfl, ?_, ?_, ?_, ?_, ?_, ?_, ?_, ?_, ?_, ?_, ?_, ?_, ?_, ?_, ?_, ?_, ?_, ?_, ?_, ?_, ?_⟩
      · first | exact hHeld | exact hHeld.trans (hb.mono hHeld.size) | (trace_state; fail)
      · first | exact flag_ne (by decide) f0 | exact fun _ => rfl
      · first | exact flag_ne (by decide) f1 | exact fun _ => rfl
      · intro _; first | rfl | (trace_state; fail)
      · intro h; rw [getD_set_ne false (by decide)] at h; exact (getD_no h0 (hC.step (j := 3) (k := 2) h (by kernel_rfl))).elim
      · first | exact flag_ne (by decide) f4 | exact fun _ => rfl
      · first | exact flag_ne (by decide) f5 | exact fun _ => rfl
      · first | exact flag_ne (by decide) f6 | exact fun _ => rfl
      · first | exact flag_ne (by decide) f7 | exact fun _ => rfl
      · first | exact flag_ne (by decide) f8 | exact fun _ => rfl
      · first | exact flag_ne (by decide) f9 | exact fun _ => rfl
      · first | exact flag_ne (by decide) f10 | exact fun _ => rfl
      · first | exact flag_ne (by decide) f11 | exact fun _ => rfl
      · first | exact flag_ne (by decide) f12 | exact fun _ => rfl
      · first | exact flag_ne (by decide) f13 | exact fun _ => rfl
      · first | exact flag_ne (by decide) f14 | exact fun _ => rfl
      · intro h; rw [getD_set_ne false (by decide)] at h; exact (getD_no h0 (hC.step (j := 3) (k := 2) (hC.step (j := 8) (k := 3) (hC.step (j := 15) (k := 8) h (by kernel_rfl)) (by kernel_rfl)) (by kernel_rfl))).elim
      · first | exact flag_ne (by decide) f16 | exact fun _ => rfl
      · first | exact flag_ne (by decide) f17 | exact fun _ => rfl
      · intro h; rw [getD_set_ne false (by decide)] at h; exact (getD_no h0 (hC.step (j := 18) (k := 2) h (by kernel_rfl))).elim
      · first | exact flag_ne (by decide) f19 | exact fun _ => rfl
    · refine StepAt.mk (o := { dst := some 20, op := Op.call { callee := Callee.value (Operand.func 22), args := #[Operand.tmp 17, Operand.const (Value.int IntKind.i64 8), Operand.tmp 19], argTypes := #[30, 3, 3] }, type := 30, pos := _, after := #[{ on := 0, ground := Ground.data }, { on := 2, ground := Ground.data }], guard := none }) (ws := [0, 2]) rfl (by kernel_rfl) ?_
      intro L b v hC h0 hA h
      refine h.elim ?_; clear h; intro u2 h
      refine h.elim ?_; clear h; intro u3 h
      refine h.elim ?_; clear h; intro u17 h
      refine h.elim ?_; clear h; intro u18 h
      refine h.elim ?_; clear h; intro u19 h
      refine h.elim ?_; clear h; intro u20 h
      refine h.elim ?_; clear h; intro u21 h
      refine h.elim ?_; clear h; intro u22 h
      refine h.elim ?_; clear h; intro u23 h
      refine h.elim ?_; clear h; intro u24 h
      refine h.elim ?_; clear h; intro u25 h
      refine h.elim ?_; clear h; intro u26 h
      refine h.elim ?_; clear h; intro u27 h
      refine h.elim ?_; clear h; intro u28 h
      refine h.elim ?_; clear h; intro u29 h
      refine h.elim ?_; clear h; intro u30 h
      refine h.elim ?_; clear h; intro u31 h
      refine h.elim ?_; clear h; intro u32 h
      refine h.elim ?_; clear h; intro u33 h
      refine h.elim ?_; clear h; intro u34 h
      have hbb := h.1; replace h := h.2; subst hbb
      have hHeld := h.1; replace h := h.2
      have f0 := h.1; replace h := h.2
      have f1 := h.1; replace h := h.2
      have f2 := h.1; replace h := h.2
      have f3 := h.1; replace h := h.2
      have f4 := h.1; replace h := h.2
      have f5 := h.1; replace h := h.2
      have f6 := h.1; replace h := h.2
      have f7 := h.1; replace h := h.2
      have f8 := h.1; replace h := h.2
      have f9 := h.1; replace h := h.2
      have f10 := h.1; replace h := h.2
      have f11 := h.1; replace h := h.2
      have f12 := h.1; replace h := h.2
      have f13 := h.1; replace h := h.2
      have f14 := h.1; replace h := h.2
      have f15 := h.1; replace h := h.2
      have f16 := h.1; replace h := h.2
      have f17 := h.1; replace h := h.2
      have f18 := h.1; replace h := h.2
      have f19 := h; clear h
      intro K hK
      have g0 := f0 (hA 0 (by simp))
      obtain rfl := g0
      have g2 := f2 (hA 2 (by simp))
      obtain rfl := g2
      rw [if_pos (by kernel_rfl)]
      have q0 := cellB hHeld C0 hg
      have q1 := cellB hHeld C1 hg
      have q2 := cellB hHeld C2 hg
      have q3 := cellB hHeld C3 hg
      have q4 := cellB hHeld C4 hg
      go_simp
      refine (octet_Put _ l 8 x.init v (RowAt.owns (owns_below HO4 hHeld) (fun i hi => byteV_at hi)) (by omega)).mono ?_; rintro e v1 ⟨r, rfl, HO, hb⟩
      go_wp2_with fail
      try simp only [Act.put, List.setIfInBounds_toArray, List.set_cons_zero, List.set_cons_succ]
      refine hK.out _ _ ⟨_, _, _, _, _, _, _, _, _, _, _, _, _, _, _, _, _, _, _, _, rfl, ?_, ?_, ?_, ?_, ?_, ?_, ?_, ?_, ?_, ?_, ?_, ?_, ?_, ?_, ?_, ?_, ?_, ?_, ?_, ?_, ?_⟩
      · first | exact hHeld | exact hHeld.trans (hb.mono hHeld.size) | (trace_state; fail)
      · first | exact flag_ne (by decide) f0 | exact fun _ => rfl
      · first | exact flag_ne (by decide) f1 | exact fun _ => rfl
      · first | exact flag_ne (by decide) f2 | exact fun _ => rfl
      · intro _; first | exact own_low HO hHeld.size | (trace_state; fail)
      · first | exact flag_ne (by decide) f4 | exact fun _ => rfl
      · first | exact flag_ne (by decide) f5 | exact fun _ => rfl
      · first | exact flag_ne (by decide) f6 | exact fun _ => rfl
      · first | exact flag_ne (by decide) f7 | exact fun _ => rfl
      · first | exact flag_ne (by decide) f8 | exact fun _ => rfl
      · first | exact flag_ne (by decide) f9 | exact fun _ => rfl
      · first | exact flag_ne (by decide) f10 | exact fun _ => rfl
      · first | exact flag_ne (by decide) f11 | exact fun _ => rfl
      · first | exact flag_ne (by decide) f12 | exact fun _ => rfl
      · first | exact flag_ne (by decide) f13 | exact fun _ => rfl
      · first | exact flag_ne (by decide) f14 | exact fun _ => rfl
      · intro h; rw [getD_set_ne false (by decide)] at h; exact (getD_no h0 (hC.step (j := 8) (k := 3) (hC.step (j := 15) (k := 8) h (by kernel_rfl)) (by kernel_rfl))).elim
      · first | exact flag_ne (by decide) f16 | exact fun _ => rfl
      · first | exact flag_ne (by decide) f17 | exact fun _ => rfl
      · intro h; rw [getD_set_ne false (by decide)] at h; exact (getD_no h0 (hC.step (j := 18) (k := 3) h (by kernel_rfl))).elim
      · first | exact flag_ne (by decide) f19 | exact fun _ => rfl
    · refine StepAt.mk (o := { dst := some 21, op := Op.fieldAddr 41 (Operand.tmp 1) 0, type := 0, pos := _, after := #[], guard := none }) (ws := []) rfl (by kernel_rfl) ?_
      intro L b v hC h0 hA h
      refine h.elim ?_; clear h; intro u2 h
      refine h.elim ?_; clear h; intro u3 h
      refine h.elim ?_; clear h; intro u17 h
      refine h.elim ?_; clear h; intro u18 h
      refine h.elim ?_; clear h; intro u19 h
      refine h.elim ?_; clear h; intro u20 h
      refine h.elim ?_; clear h; intro u21 h
      refine h.elim ?_; clear h; intro u22 h
      refine h.elim ?_; clear h; intro u23 h
      refine h.elim ?_; clear h; intro u24 h
      refine h.elim ?_; clear h; intro u25 h
      refine h.elim ?_; clear h; intro u26 h
      refine h.elim ?_; clear h; intro u27 h
      refine h.elim ?_; clear h; intro u28 h
      refine h.elim ?_; clear h; intro u29 h
      refine h.elim ?_; clear h; intro u30 h
      refine h.elim ?_; clear h; intro u31 h
      refine h.elim ?_; clear h; intro u32 h
      refine h.elim ?_; clear h; intro u33 h
      refine h.elim ?_; clear h; intro u34 h
      have hbb := h.1; replace h := h.2; subst hbb
      have hHeld := h.1; replace h := h.2
      have f0 := h.1; replace h := h.2
      have f1 := h.1; replace h := h.2
      have f2 := h.1; replace h := h.2
      have f3 := h.1; replace h := h.2
      have f4 := h.1; replace h := h.2
      have f5 := h.1; replace h := h.2
      have f6 := h.1; replace h := h.2
      have f7 := h.1; replace h := h.2
      have f8 := h.1; replace h := h.2
      have f9 := h.1; replace h := h.2
      have f10 := h.1; replace h := h.2
      have f11 := h.1; replace h := h.2
      have f12 := h.1; replace h := h.2
      have f13 := h.1; replace h := h.2
      have f14 := h.1; replace h := h.2
      have f15 := h.1; replace h := h.2
      have f16 := h.1; replace h := h.2
      have f17 := h.1; replace h := h.2
      have f18 := h.1; replace h := h.2
      have f19 := h; clear h
      intro K hK
      rw [if_pos (by kernel_rfl)]
      have q0 := cellB hHeld C0 hg
      have q1 := cellB hHeld C1 hg
      have q2 := cellB hHeld C2 hg
      have q3 := cellB hHeld C3 hg
      have q4 := cellB hHeld C4 hg
      go_simp
      try simp only [Act.put, List.setIfInBounds_toArray, List.set_cons_zero, List.set_cons_succ]
      refine hK.out _ _ ⟨_, _, _, _, _, _, _, _, _, _, _, _, _, _, _, _, _, _, _, _, rfl, ?_, ?_, ?_, ?_, ?_, ?_, ?_, ?_, ?_, ?_, ?_, ?_, ?_, ?_, ?_, ?_, ?_, ?_, ?_, ?_, ?_⟩
      · first | exact hHeld | exact hHeld.trans (hb.mono hHeld.size) | (trace_state; fail)
      · first | exact flag_ne (by decide) f0 | exact fun _ => rfl
      · first | exact flag_ne (by decide) f1 | exact fun _ => rfl
      · first | exact flag_ne (by decide) f2 | exact fun _ => rfl
      · intro h; rw [getD_set_ne false (by decide)] at h; have := f3 h; first | exact this | exact owns_below this hb | (trace_state; fail)
      · intro _; first | rfl | (trace_state; fail)
      · first | exact flag_ne (by decide) f5 | exact fun _ => rfl
      · first | exact flag_ne (by decide) f6 | exact fun _ => rfl
      · first | exact flag_ne (by decide) f7 | exact fun _ => rfl
      · first | exact flag_ne (by decide) f8 | exact fun _ => rfl
      · first | exact flag_ne (by decide) f9 | exact fun _ => rfl
      · first | exact flag_ne (by decide) f10 | exact fun _ => rfl
      · first | exact flag_ne (by decide) f11 | exact fun _ => rfl
      · first | exact flag_ne (by decide) f12 | exact fun _ => rfl
      · first | exact flag_ne (by decide) f13 | exact fun _ => rfl
      · first | exact flag_ne (by decide) f14 | exact fun _ => rfl
      · intro h; rw [getD_set_ne false (by decide)] at h; exact (getD_no h0 (hC.step (j := 5) (k := 4) (hC.step (j := 6) (k := 5) (hC.step (j := 7) (k := 6) (hC.step (j := 8) (k := 7) (hC.step (j := 15) (k := 8) h (by kernel_rfl)) (by kernel_rfl)) (by kernel_rfl)) (by kernel_rfl)) (by kernel_rfl))).elim
      · first | exact flag_ne (by decide) f16 | exact fun _ => rfl
      · first | exact flag_ne (by decide) f17 | exact fun _ => rfl
      · intro h; rw [getD_set_ne false (by decide)] at h; exact (getD_no h0 (hC.step (j := 5) (k := 4) (hC.step (j := 6) (k := 5) (hC.step (j := 7) (k := 6) (hC.step (j := 8) (k := 7) (hC.step (j := 16) (k := 8) (hC.step (j := 18) (k := 16) h (by kernel_rfl)) (by kernel_rfl)) (by kernel_rfl)) (by kernel_rfl)) (by kernel_rfl)) (by kernel_rfl))).elim
      · first | exact flag_ne (by decide) f19 | exact fun _ => rfl
    · refine StepAt.mk (o := { dst := some 22, op := Op.load 9 (Operand.tmp 21), type := 9, pos := _, after := #[{ on := 4, ground := Ground.data }], guard := none }) (ws := [4]) rfl (by kernel_rfl) ?_
      intro L b v hC h0 hA h
      refine h.elim ?_; clear h; intro u2 h
      refine h.elim ?_; clear h; intro u3 h
      refine h.elim ?_; clear h; intro u17 h
      refine h.elim ?_; clear h; intro u18 h
      refine h.elim ?_; clear h; intro u19 h
      refine h.elim ?_; clear h; intro u20 h
      refine h.elim ?_; clear h; intro u21 h
      refine h.elim ?_; clear h; intro u22 h
      refine h.elim ?_; clear h; intro u23 h
      refine h.elim ?_; clear h; intro u24 h
      refine h.elim ?_; clear h; intro u25 h
      refine h.elim ?_; clear h; intro u26 h
      refine h.elim ?_; clear h; intro u27 h
      refine h.elim ?_; clear h; intro u28 h
      refine h.elim ?_; clear h; intro u29 h
      refine h.elim ?_; clear h; intro u30 h
      refine h.elim ?_; clear h; intro u31 h
      refine h.elim ?_; clear h; intro u32 h
      refine h.elim ?_; clear h; intro u33 h
      refine h.elim ?_; clear h; intro u34 h
      have hbb := h.1; replace h := h.2; subst hbb
      have hHeld := h.1; replace h := h.2
      have f0 := h.1; replace h := h.2
      have f1 := h.1; replace h := h.2
      have f2 := h.1; replace h := h.2
      have f3 := h.1; replace h := h.2
      have f4 := h.1; replace h := h.2
      have f5 := h.1; replace h := h.2
      have f6 := h.1; replace h := h.2
      have f7 := h.1; replace h := h.2
      have f8 := h.1; replace h := h.2
      have f9 := h.1; replace h := h.2
      have f10 := h.1; replace h := h.2
      have f11 := h.1; replace h := h.2
      have f12 := h.1; replace h := h.2
      have f13 := h.1; replace h := h.2
      have f14 := h.1; replace h := h.2
      have f15 := h.1; replace h := h.2
      have f16 := h.1; replace h := h.2
      have f17 := h.1; replace h := h.2
      have f18 := h.1; replace h := h.2
      have f19 := h; clear h
      intro K hK
      have g4 := f4 (hA 4 (by simp))
      obtain rfl := g4
      rw [if_pos (by kernel_rfl)]
      have q0 := cellB hHeld C0 hg
      have q1 := cellB hHeld C1 hg
      have q2 := cellB hHeld C2 hg
      have q3 := cellB hHeld C3 hg
      have q4 := cellB hHeld C4 hg
      go_simp
      try simp only [Act.put, List.setIfInBounds_toArray, List.set_cons_zero, List.set_cons_succ]
      refine hK.out _ _ ⟨_, _, _, _, _, _, _, _, _, _, _, _, _, _, _, _, _, _, _, _, rfl, ?_, ?_, ?_, ?_, ?_, ?_, ?_, ?_, ?_, ?_, ?_, ?_, ?_, ?_, ?_, ?_, ?_, ?_, ?_, ?_, ?_⟩
      · first | exact hHeld | exact hHeld.trans (hb.mono hHeld.size) | (trace_state; fail)
      · first | exact flag_ne (by decide) f0 | exact fun _ => rfl
      · first | exact flag_ne (by decide) f1 | exact fun _ => rfl
      · first | exact flag_ne (by decide) f2 | exact fun _ => rfl
      · intro h; rw [getD_set_ne false (by decide)] at h; have := f3 h; first | exact this | exact owns_below this hb | (trace_state; fail)
      · first | exact flag_ne (by decide) f4 | exact fun _ => rfl
      · intro _; first | rfl | (trace_state; fail)
      · first | exact flag_ne (by decide) f6 | exact fun _ => rfl
      · first | exact flag_ne (by decide) f7 | exact fun _ => rfl
      · first | exact flag_ne (by decide) f8 | exact fun _ => rfl
      · first | exact flag_ne (by decide) f9 | exact fun _ => rfl
      · first | exact flag_ne (by decide) f10 | exact fun _ => rfl
      · first | exact flag_ne (by decide) f11 | exact fun _ => rfl
      · first | exact flag_ne (by decide) f12 | exact fun _ => rfl
      · first | exact flag_ne (by decide) f13 | exact fun _ => rfl
      · first | exact flag_ne (by decide) f14 | exact fun _ => rfl
      · intro h; rw [getD_set_ne false (by decide)] at h; exact (getD_no h0 (hC.step (j := 6) (k := 5) (hC.step (j := 7) (k := 6) (hC.step (j := 8) (k := 7) (hC.step (j := 15) (k := 8) h (by kernel_rfl)) (by kernel_rfl)) (by kernel_rfl)) (by kernel_rfl))).elim
      · first | exact flag_ne (by decide) f16 | exact fun _ => rfl
      · first | exact flag_ne (by decide) f17 | exact fun _ => rfl
      · intro h; rw [getD_set_ne false (by decide)] at h; exact (getD_no h0 (hC.step (j := 6) (k := 5) (hC.step (j := 7) (k := 6) (hC.step (j := 8) (k := 7) (hC.step (j := 16) (k := 8) (hC.step (j := 18) (k := 16) h (by kernel_rfl)) (by kernel_rfl)) (by kernel_rfl)) (by kernel_rfl)) (by kernel_rfl))).elim
      · first | exact flag_ne (by decide) f19 | exact fun _ => rfl
    · refine StepAt.mk (o := { dst := some 23, op := Op.call { callee := Callee.builtin Builtin.len, args := #[Operand.tmp 22], argTypes := #[9] }, type := 3, pos := _, after := #[{ on := 5, ground := Ground.data }], guard := none }) (ws := [5]) rfl (by kernel_rfl) ?_
      intro L b v hC h0 hA h
      refine h.elim ?_; clear h; intro u2 h
      refine h.elim ?_; clear h; intro u3 h
      refine h.elim ?_; clear h; intro u17 h
      refine h.elim ?_; clear h; intro u18 h
      refine h.elim ?_; clear h; intro u19 h
      refine h.elim ?_; clear h; intro u20 h
      refine h.elim ?_; clear h; intro u21 h
      refine h.elim ?_; clear h; intro u22 h
      refine h.elim ?_; clear h; intro u23 h
      refine h.elim ?_; clear h; intro u24 h
      refine h.elim ?_; clear h; intro u25 h
      refine h.elim ?_; clear h; intro u26 h
      refine h.elim ?_; clear h; intro u27 h
      refine h.elim ?_; clear h; intro u28 h
      refine h.elim ?_; clear h; intro u29 h
      refine h.elim ?_; clear h; intro u30 h
      refine h.elim ?_; clear h; intro u31 h
      refine h.elim ?_; clear h; intro u32 h
      refine h.elim ?_; clear h; intro u33 h
      refine h.elim ?_; clear h; intro u34 h
      have hbb := h.1; replace h := h.2; subst hbb
      have hHeld := h.1; replace h := h.2
      have f0 := h.1; replace h := h.2
      have f1 := h.1; replace h := h.2
      have f2 := h.1; replace h := h.2
      have f3 := h.1; replace h := h.2
      have f4 := h.1; replace h := h.2
      have f5 := h.1; replace h := h.2
      have f6 := h.1; replace h := h.2
      have f7 := h.1; replace h := h.2
      have f8 := h.1; replace h := h.2
      have f9 := h.1; replace h := h.2
      have f10 := h.1; replace h := h.2
      have f11 := h.1; replace h := h.2
      have f12 := h.1; replace h := h.2
      have f13 := h.1; replace h := h.2
      have f14 := h.1; replace h := h.2
      have f15 := h.1; replace h := h.2
      have f16 := h.1; replace h := h.2
      have f17 := h.1; replace h := h.2
      have f18 := h.1; replace h := h.2
      have f19 := h; clear h
      intro K hK
      have g5 := f5 (hA 5 (by simp))
      obtain rfl := g5
      rw [if_pos (by kernel_rfl)]
      have q0 := cellB hHeld C0 hg
      have q1 := cellB hHeld C1 hg
      have q2 := cellB hHeld C2 hg
      have q3 := cellB hHeld C3 hg
      have q4 := cellB hHeld C4 hg
      go_simp
      try simp only [Act.put, List.setIfInBounds_toArray, List.set_cons_zero, List.set_cons_succ]
      refine hK.out _ _ ⟨_, _, _, _, _, _, _, _, _, _, _, _, _, _, _, _, _, _, _, _, rfl, ?_, ?_, ?_, ?_, ?_, ?_, ?_, ?_, ?_, ?_, ?_, ?_, ?_, ?_, ?_, ?_, ?_, ?_, ?_, ?_, ?_⟩
      · first | exact hHeld | exact hHeld.trans (hb.mono hHeld.size) | (trace_state; fail)
      · first | exact flag_ne (by decide) f0 | exact fun _ => rfl
      · first | exact flag_ne (by decide) f1 | exact fun _ => rfl
      · first | exact flag_ne (by decide) f2 | exact fun _ => rfl
      · intro h; rw [getD_set_ne false (by decide)] at h; have := f3 h; first | exact this | exact owns_below this hb | (trace_state; fail)
      · first | exact flag_ne (by decide) f4 | exact fun _ => rfl
      · first | exact flag_ne (by decide) f5 | exact fun _ => rfl
      · intro _; first | rfl | (trace_state; fail)
      · first | exact flag_ne (by decide) f7 | exact fun _ => rfl
      · first | exact flag_ne (by decide) f8 | exact fun _ => rfl
      · first | exact flag_ne (by decide) f9 | exact fun _ => rfl
      · first | exact flag_ne (by decide) f10 | exact fun _ => rfl
      · first | exact flag_ne (by decide) f11 | exact fun _ => rfl
      · first | exact flag_ne (by decide) f12 | exact fun _ => rfl
      · first | exact flag_ne (by decide) f13 | exact fun _ => rfl
      · first | exact flag_ne (by decide) f14 | exact fun _ => rfl
      · intro h; rw [getD_set_ne false (by decide)] at h; exact (getD_no h0 (hC.step (j := 7) (k := 6) (hC.step (j := 8) (k := 7) (hC.step (j := 15) (k := 8) h (by kernel_rfl)) (by kernel_rfl)) (by kernel_rfl))).elim
      · first | exact flag_ne (by decide) f16 | exact fun _ => rfl
      · first | exact flag_ne (by decide) f17 | exact fun _ => rfl
      · intro h; rw [getD_set_ne false (by decide)] at h; exact (getD_no h0 (hC.step (j := 7) (k := 6) (hC.step (j := 8) (k := 7) (hC.step (j := 16) (k := 8) (hC.step (j := 18) (k := 16) h (by kernel_rfl)) (by kernel_rfl)) (by kernel_rfl)) (by kernel_rfl))).elim
      · first | exact flag_ne (by decide) f19 | exact fun _ => rfl
    · refine StepAt.mk (o := { dst := some 24, op := Op.binOp BinOp.leq 3 (Operand.tmp 23) (Operand.const (Value.int IntKind.i64 255)) 3, type := 4, pos := _, after := #[{ on := 6, ground := Ground.data }], guard := none }) (ws := [6]) rfl (by kernel_rfl) ?_
      intro L b v hC h0 hA h
      refine h.elim ?_; clear h; intro u2 h
      refine h.elim ?_; clear h; intro u3 h
      refine h.elim ?_; clear h; intro u17 h
      refine h.elim ?_; clear h; intro u18 h
      refine h.elim ?_; clear h; intro u19 h
      refine h.elim ?_; clear h; intro u20 h
      refine h.elim ?_; clear h; intro u21 h
      refine h.elim ?_; clear h; intro u22 h
      refine h.elim ?_; clear h; intro u23 h
      refine h.elim ?_; clear h; intro u24 h
      refine h.elim ?_; clear h; intro u25 h
      refine h.elim ?_; clear h; intro u26 h
      refine h.elim ?_; clear h; intro u27 h
      refine h.elim ?_; clear h; intro u28 h
      refine h.elim ?_; clear h; intro u29 h
      refine h.elim ?_; clear h; intro u30 h
      refine h.elim ?_; clear h; intro u31 h
      refine h.elim ?_; clear h; intro u32 h
      refine h.elim ?_; clear h; intro u33 h
      refine h.elim ?_; clear h; intro u34 h
      have hbb := h.1; replace h := h.2; subst hbb
      have hHeld := h.1; replace h := h.2
      have f0 := h.1; replace h := h.2
      have f1 := h.1; replace h := h.2
      have f2 := h.1; replace h := h.2
      have f3 := h.1; replace h := h.2
      have f4 := h.1; replace h := h.2
      have f5 := h.1; replace h := h.2
      have f6 := h.1; replace h := h.2
      have f7 := h.1; replace h := h.2
      have f8 := h.1; replace h := h.2
      have f9 := h.1; replace h := h.2
      have f10 := h.1; replace h := h.2
      have f11 := h.1; replace h := h.2
      have f12 := h.1; replace h := h.2
      have f13 := h.1; replace h := h.2
      have f14 := h.1; replace h := h.2
      have f15 := h.1; replace h := h.2
      have f16 := h.1; replace h := h.2
      have f17 := h.1; replace h := h.2
      have f18 := h.1; replace h := h.2
      have f19 := h; clear h
      intro K hK
      have g6 := f6 (hA 6 (by simp))
      obtain rfl := g6
      rw [if_pos (by kernel_rfl)]
      have q0 := cellB hHeld C0 hg
      have q1 := cellB hHeld C1 hg
      have q2 := cellB hHeld C2 hg
      have q3 := cellB hHeld C3 hg
      have q4 := cellB hHeld C4 hg
      go_simp
      try simp only [Act.put, List.setIfInBounds_toArray, List.set_cons_zero, List.set_cons_succ]
      refine hK.out _ _ ⟨_, _, _, _, _, _, _, _, _, _, _, _, _, _, _, _, _, _, _, _, rfl, ?_, ?_, ?_, ?_, ?_, ?_, ?_, ?_, ?_, ?_, ?_, ?_, ?_, ?_, ?_, ?_, ?_, ?_, ?_, ?_, ?_⟩
      · first | exact hHeld | exact hHeld.trans (hb.mono hHeld.size) | (trace_state; fail)
      · first | exact flag_ne (by decide) f0 | exact fun _ => rfl
      · first | exact flag_ne (by decide) f1 | exact fun _ => rfl
      · first | exact flag_ne (by decide) f2 | exact fun _ => rfl
      · intro h; rw [getD_set_ne false (by decide)] at h; have := f3 h; first | exact this | exact owns_below this hb | (trace_state; fail)
      · first | exact flag_ne (by decide) f4 | exact fun _ => rfl
      · first | exact flag_ne (by decide) f5 | exact fun _ => rfl
      · first | exact flag_ne (by decide) f6 | exact fun _ => rfl
      · intro _; first | rfl | (trace_state; fail)
      · first | exact flag_ne (by decide) f8 | exact fun _ => rfl
      · first | exact flag_ne (by decide) f9 | exact fun _ => rfl
      · first | exact flag_ne (by decide) f10 | exact fun _ => rfl
      · first | exact flag_ne (by decide) f11 | exact fun _ => rfl
      · first | exact flag_ne (by decide) f12 | exact fun _ => rfl
      · first | exact flag_ne (by decide) f13 | exact fun _ => rfl
      · first | exact flag_ne (by decide) f14 | exact fun _ => rfl
      · intro h; rw [getD_set_ne false (by decide)] at h; exact (getD_no h0 (hC.step (j := 8) (k := 7) (hC.step (j := 15) (k := 8) h (by kernel_rfl)) (by kernel_rfl))).elim
      · first | exact flag_ne (by decide) f16 | exact fun _ => rfl
      · first | exact flag_ne (by decide) f17 | exact fun _ => rfl
      · intro h; rw [getD_set_ne false (by decide)] at h; exact (getD_no h0 (hC.step (j := 8) (k := 7) (hC.step (j := 16) (k := 8) (hC.step (j := 18) (k := 16) h (by kernel_rfl)) (by kernel_rfl)) (by kernel_rfl))).elim
      · first | exact flag_ne (by decide) f19 | exact fun _ => rfl
    · refine StepAt.mk (o := { dst := some 25, op := Op.move (Operand.tmp 24), type := 4, pos := _, after := #[{ on := 7, ground := Ground.data }, { on := 3, ground := Ground.chain }], guard := none }) (ws := [7, 3]) rfl (by kernel_rfl) ?_
      intro L b v hC h0 hA h
      refine h.elim ?_; clear h; intro u2 h
      refine h.elim ?_; clear h; intro u3 h
      refine h.elim ?_; clear h; intro u17 h
      refine h.elim ?_; clear h; intro u18 h
      refine h.elim ?_; clear h; intro u19 h
      refine h.elim ?_; clear h; intro u20 h
      refine h.elim ?_; clear h; intro u21 h
      refine h.elim ?_; clear h; intro u22 h
      refine h.elim ?_; clear h; intro u23 h
      refine h.elim ?_; clear h; intro u24 h
      refine h.elim ?_; clear h; intro u25 h
      refine h.elim ?_; clear h; intro u26 h
      refine h.elim ?_; clear h; intro u27 h
      refine h.elim ?_; clear h; intro u28 h
      refine h.elim ?_; clear h; intro u29 h
      refine h.elim ?_; clear h; intro u30 h
      refine h.elim ?_; clear h; intro u31 h
      refine h.elim ?_; clear h; intro u32 h
      refine h.elim ?_; clear h; intro u33 h
      refine h.elim ?_; clear h; intro u34 h
      have hbb := h.1; replace h := h.2; subst hbb
      have hHeld := h.1; replace h := h.2
      have f0 := h.1; replace h := h.2
      have f1 := h.1; replace h := h.2
      have f2 := h.1; replace h := h.2
      have f3 := h.1; replace h := h.2
      have f4 := h.1; replace h := h.2
      have f5 := h.1; replace h := h.2
      have f6 := h.1; replace h := h.2
      have f7 := h.1; replace h := h.2
      have f8 := h.1; replace h := h.2
      have f9 := h.1; replace h := h.2
      have f10 := h.1; replace h := h.2
      have f11 := h.1; replace h := h.2
      have f12 := h.1; replace h := h.2
      have f13 := h.1; replace h := h.2
      have f14 := h.1; replace h := h.2
      have f15 := h.1; replace h := h.2
      have f16 := h.1; replace h := h.2
      have f17 := h.1; replace h := h.2
      have f18 := h.1; replace h := h.2
      have f19 := h; clear h
      intro K hK
      have g7 := f7 (hA 7 (by simp))
      obtain rfl := g7
      have g3 := f3 (hA 3 (by simp))
      rw [if_pos (by kernel_rfl)]
      have q0 := cellB hHeld C0 hg
      have q1 := cellB hHeld C1 hg
      have q2 := cellB hHeld C2 hg
      have q3 := cellB hHeld C3 hg
      have q4 := cellB hHeld C4 hg
      go_simp
      try simp only [Act.put, List.setIfInBounds_toArray, List.set_cons_zero, List.set_cons_succ]
      refine hK.out _ _ ⟨_, _, _, _, _, _, _, _, _, _, _, _, _, _, _, _, _, _, _, _, rfl, ?_, ?_, ?_, ?_, ?_, ?_, ?_, ?_, ?_, ?_, ?_, ?_, ?_, ?_, ?_, ?_, ?_, ?_, ?_, ?_, ?_⟩
      · first | exact hHeld | exact hHeld.trans (hb.mono hHeld.size) | (trace_state; fail)
      · first | exact flag_ne (by decide) f0 | exact fun _ => rfl
      · first | exact flag_ne (by decide) f1 | exact fun _ => rfl
      · first | exact flag_ne (by decide) f2 | exact fun _ => rfl
      · intro h; rw [getD_set_ne false (by decide)] at h; have := f3 h; first | exact this | exact owns_below this hb | (trace_state; fail)
      · first | exact flag_ne (by decide) f4 | exact fun _ => rfl
      · first | exact flag_ne (by decide) f5 | exact fun _ => rfl
      · first | exact flag_ne (by decide) f6 | exact fun _ => rfl
      · first | exact flag_ne (by decide) f7 | exact fun _ => rfl
      · intro _; first | rfl | (trace_state; fail)
      · first | exact flag_ne (by decide) f9 | exact fun _ => rfl
      · first | exact flag_ne (by decide) f10 | exact fun _ => rfl
      · first | exact flag_ne (by decide) f11 | exact fun _ => rfl
      · first | exact flag_ne (by decide) f12 | exact fun _ => rfl
      · first | exact flag_ne (by decide) f13 | exact fun _ => rfl
      · first | exact flag_ne (by decide) f14 | exact fun _ => rfl
      · intro h; rw [getD_set_ne false (by decide)] at h; exact (getD_no h0 (hC.step (j := 15) (k := 8) h (by kernel_rfl))).elim
      · first | exact flag_ne (by decide) f16 | exact fun _ => rfl
      · first | exact flag_ne (by decide) f17 | exact fun _ => rfl
      · intro h; rw [getD_set_ne false (by decide)] at h; exact (getD_no h0 (hC.step (j := 16) (k := 8) (hC.step (j := 18) (k := 16) h (by kernel_rfl)) (by kernel_rfl))).elim
      · first | exact flag_ne (by decide) f19 | exact fun _ => rfl
    · refine StepAt.mk (o := { dst := some 26, op := Op.fieldAddr 41 (Operand.tmp 1) 1, type := 0, pos := _, after := #[{ on := 8, ground := Ground.guard }], guard := some (8, true) }) (ws := [8]) rfl (by kernel_rfl) ?_
      intro L b v hC h0 hA h
      refine h.elim ?_; clear h; intro u2 h
      refine h.elim ?_; clear h; intro u3 h
      refine h.elim ?_; clear h; intro u17 h
      refine h.elim ?_; clear h; intro u18 h
      refine h.elim ?_; clear h; intro u19 h
      refine h.elim ?_; clear h; intro u20 h
      refine h.elim ?_; clear h; intro u21 h
      refine h.elim ?_; clear h; intro u22 h
      refine h.elim ?_; clear h; intro u23 h
      refine h.elim ?_; clear h; intro u24 h
      refine h.elim ?_; clear h; intro u25 h
      refine h.elim ?_; clear h; intro u26 h
      refine h.elim ?_; clear h; intro u27 h
      refine h.elim ?_; clear h; intro u28 h
      refine h.elim ?_; clear h; intro u29 h
      refine h.elim ?_; clear h; intro u30 h
      refine h.elim ?_; clear h; intro u31 h
      refine h.elim ?_; clear h; intro u32 h
      refine h.elim ?_; clear h; intro u33 h
      refine h.elim ?_; clear h; intro u34 h
      have hbb := h.1; replace h := h.2; subst hbb
      have hHeld := h.1; replace h := h.2
      have f0 := h.1; replace h := h.2
      have f1 := h.1; replace h := h.2
      have f2 := h.1; replace h := h.2
      have f3 := h.1; replace h := h.2
      have f4 := h.1; replace h := h.2
      have f5 := h.1; replace h := h.2
      have f6 := h.1; replace h := h.2
      have f7 := h.1; replace h := h.2
      have f8 := h.1; replace h := h.2
      have f9 := h.1; replace h := h.2
      have f10 := h.1; replace h := h.2
      have f11 := h.1; replace h := h.2
      have f12 := h.1; replace h := h.2
      have f13 := h.1; replace h := h.2
      have f14 := h.1; replace h := h.2
      have f15 := h.1; replace h := h.2
      have f16 := h.1; replace h := h.2
      have f17 := h.1; replace h := h.2
      have f18 := h.1; replace h := h.2
      have f19 := h; clear h
      intro K hK
      have g8 := f8 (hA 8 (by simp))
      obtain rfl := g8
      rw [if_pos (by kernel_rfl)]
      have q0 := cellB hHeld C0 hg
      have q1 := cellB hHeld C1 hg
      have q2 := cellB hHeld C2 hg
      have q3 := cellB hHeld C3 hg
      have q4 := cellB hHeld C4 hg
      go_simp
      try simp only [Act.put, List.setIfInBounds_toArray, List.set_cons_zero, List.set_cons_succ]
      refine hK.out _ _ ⟨_, _, _, _, _, _, _, _, _, _, _, _, _, _, _, _, _, _, _, _, rfl, ?_, ?_, ?_, ?_, ?_, ?_, ?_, ?_, ?_, ?_, ?_, ?_, ?_, ?_, ?_, ?_, ?_, ?_, ?_, ?_, ?_⟩
      · first | exact hHeld | exact hHeld.trans (hb.mono hHeld.size) | (trace_state; fail)
      · first | exact flag_ne (by decide) f0 | exact fun _ => rfl
      · first | exact flag_ne (by decide) f1 | exact fun _ => rfl
      · first | exact flag_ne (by decide) f2 | exact fun _ => rfl
      · intro h; rw [getD_set_ne false (by decide)] at h; have := f3 h; first | exact this | exact owns_below this hb | (trace_state; fail)
      · first | exact flag_ne (by decide) f4 | exact fun _ => rfl
      · first | exact flag_ne (by decide) f5 | exact fun _ => rfl
      · first | exact flag_ne (by decide) f6 | exact fun _ => rfl
      · first | exact flag_ne (by decide) f7 | exact fun _ => rfl
      · first | exact flag_ne (by decide) f8 | exact fun _ => rfl
      · intro _; first | rfl | (trace_state; fail)
      · first | exact flag_ne (by decide) f10 | exact fun _ => rfl
      · first | exact flag_ne (by decide) f11 | exact fun _ => rfl
      · first | exact flag_ne (by decide) f12 | exact fun _ => rfl
      · first | exact flag_ne (by decide) f13 | exact fun _ => rfl
      · first | exact flag_ne (by decide) f14 | exact fun _ => rfl
      · intro h; rw [getD_set_ne false (by decide)] at h; exact (getD_no h0 (hC.step (j := 10) (k := 9) (hC.step (j := 15) (k := 10) h (by kernel_rfl)) (by kernel_rfl))).elim
      · first | exact flag_ne (by decide) f16 | exact fun _ => rfl
      · first | exact flag_ne (by decide) f17 | exact fun _ => rfl
      · intro h; rw [getD_set_ne false (by decide)] at h; exact (getD_no h0 (hC.step (j := 10) (k := 9) (hC.step (j := 15) (k := 10) (hC.step (j := 16) (k := 15) (hC.step (j := 18) (k := 16) h (by kernel_rfl)) (by kernel_rfl)) (by kernel_rfl)) (by kernel_rfl))).elim
      · first | exact flag_ne (by decide) f19 | exact fun _ => rfl
    · refine StepAt.mk (o := { dst := some 27, op := Op.load 3 (Operand.tmp 26), type := 3, pos := _, after := #[{ on := 9, ground := Ground.data }, { on := 8, ground := Ground.guard }], guard := some (8, true) }) (ws := [9, 8]) rfl (by kernel_rfl) ?_
      intro L b v hC h0 hA h
      refine h.elim ?_; clear h; intro u2 h
      refine h.elim ?_; clear h; intro u3 h
      refine h.elim ?_; clear h; intro u17 h
      refine h.elim ?_; clear h; intro u18 h
      refine h.elim ?_; clear h; intro u19 h
      refine h.elim ?_; clear h; intro u20 h
      refine h.elim ?_; clear h; intro u21 h
      refine h.elim ?_; clear h; intro u22 h
      refine h.elim ?_; clear h; intro u23 h
      refine h.elim ?_; clear h; intro u24 h
      refine h.elim ?_; clear h; intro u25 h
      refine h.elim ?_; clear h; intro u26 h
      refine h.elim ?_; clear h; intro u27 h
      refine h.elim ?_; clear h; intro u28 h
      refine h.elim ?_; clear h; intro u29 h
      refine h.elim ?_; clear h; intro u30 h
      refine h.elim ?_; clear h; intro u31 h
      refine h.elim ?_; clear h; intro u32 h
      refine h.elim ?_; clear h; intro u33 h
      refine h.elim ?_; clear h; intro u34 h
      have hbb := h.1; replace h := h.2; subst hbb
      have hHeld := h.1; replace h := h.2
      have f0 := h.1; replace h := h.2
      have f1 := h.1; replace h := h.2
      have f2 := h.1; replace h := h.2
      have f3 := h.1; replace h := h.2
      have f4 := h.1; replace h := h.2
      have f5 := h.1; replace h := h.2
      have f6 := h.1; replace h := h.2
      have f7 := h.1; replace h := h.2
      have f8 := h.1; replace h := h.2
      have f9 := h.1; replace h := h.2
      have f10 := h.1; replace h := h.2
      have f11 := h.1; replace h := h.2
      have f12 := h.1; replace h := h.2
      have f13 := h.1; replace h := h.2
      have f14 := h.1; replace h := h.2
      have f15 := h.1; replace h := h.2
      have f16 := h.1; replace h := h.2
      have f17 := h.1; replace h := h.2
      have f18 := h.1; replace h := h.2
      have f19 := h; clear h
      intro K hK
      have g9 := f9 (hA 9 (by simp))
      obtain rfl := g9
      have g8 := f8 (hA 8 (by simp))
      obtain rfl := g8
      rw [if_pos (by kernel_rfl)]
      have q0 := cellB hHeld C0 hg
      have q1 := cellB hHeld C1 hg
      have q2 := cellB hHeld C2 hg
      have q3 := cellB hHeld C3 hg
      have q4 := cellB hHeld C4 hg
      go_simp
      try simp only [Act.put, List.setIfInBounds_toArray, List.set_cons_zero, List.set_cons_succ]
      refine hK.out _ _ ⟨_, _, _, _, _, _, _, _, _, _, _, _, _, _, _, _, _, _, _, _, rfl, ?_, ?_, ?_, ?_, ?_, ?_, ?_, ?_, ?_, ?_, ?_, ?_, ?_, ?_, ?_, ?_, ?_, ?_, ?_, ?_, ?_⟩
      · first | exact hHeld | exact hHeld.trans (hb.mono hHeld.size) | (trace_state; fail)
      · first | exact flag_ne (by decide) f0 | exact fun _ => rfl
      · first | exact flag_ne (by decide) f1 | exact fun _ => rfl
      · first | exact flag_ne (by decide) f2 | exact fun _ => rfl
      · intro h; rw [getD_set_ne false (by decide)] at h; have := f3 h; first | exact this | exact owns_below this hb | (trace_state; fail)
      · first | exact flag_ne (by decide) f4 | exact fun _ => rfl
      · first | exact flag_ne (by decide) f5 | exact fun _ => rfl
      · first | exact flag_ne (by decide) f6 | exact fun _ => rfl
      · first | exact flag_ne (by decide) f7 | exact fun _ => rfl
      · first | exact flag_ne (by decide) f8 | exact fun _ => rfl
      · first | exact flag_ne (by decide) f9 | exact fun _ => rfl
      · intro _; first | rfl | (trace_state; fail)
      · first | exact flag_ne (by decide) f11 | exact fun _ => rfl
      · first | exact flag_ne (by decide) f12 | exact fun _ => rfl
      · first | exact flag_ne (by decide) f13 | exact fun _ => rfl
      · first | exact flag_ne (by decide) f14 | exact fun _ => rfl
      · intro h; rw [getD_set_ne false (by decide)] at h; exact (getD_no h0 (hC.step (j := 15) (k := 10) h (by kernel_rfl))).elim
      · first | exact flag_ne (by decide) f16 | exact fun _ => rfl
      · first | exact flag_ne (by decide) f17 | exact fun _ => rfl
      · intro h; rw [getD_set_ne false (by decide)] at h; exact (getD_no h0 (hC.step (j := 15) (k := 10) (hC.step (j := 16) (k := 15) (hC.step (j := 18) (k := 16) h (by kernel_rfl)) (by kernel_rfl)) (by kernel_rfl))).elim
      · first | exact flag_ne (by decide) f19 | exact fun _ => rfl
    · refine StepAt.mk (o := { dst := some 28, op := Op.fieldAddr 41 (Operand.tmp 1) 2, type := 0, pos := _, after := #[{ on := 8, ground := Ground.guard }], guard := some (8, true) }) (ws := [8]) rfl (by kernel_rfl) ?_
      intro L b v hC h0 hA h
      refine h.elim ?_; clear h; intro u2 h
      refine h.elim ?_; clear h; intro u3 h
      refine h.elim ?_; clear h; intro u17 h
      refine h.elim ?_; clear h; intro u18 h
      refine h.elim ?_; clear h; intro u19 h
      refine h.elim ?_; clear h; intro u20 h
      refine h.elim ?_; clear h; intro u21 h
      refine h.elim ?_; clear h; intro u22 h
      refine h.elim ?_; clear h; intro u23 h
      refine h.elim ?_; clear h; intro u24 h
      refine h.elim ?_; clear h; intro u25 h
      refine h.elim ?_; clear h; intro u26 h
      refine h.elim ?_; clear h; intro u27 h
      refine h.elim ?_; clear h; intro u28 h
      refine h.elim ?_; clear h; intro u29 h
      refine h.elim ?_; clear h; intro u30 h
      refine h.elim ?_; clear h; intro u31 h
      refine h.elim ?_; clear h; intro u32 h
      refine h.elim ?_; clear h; intro u33 h
      refine h.elim ?_; clear h; intro u34 h
      have hbb := h.1; replace h := h.2; subst hbb
      have hHeld := h.1; replace h := h.2
      have f0 := h.1; replace h := h.2
      have f1 := h.1; replace h := h.2
      have f2 := h.1; replace h := h.2
      have f3 := h.1; replace h := h.2
      have f4 := h.1; replace h := h.2
      have f5 := h.1; replace h := h.2
      have f6 := h.1; replace h := h.2
      have f7 := h.1; replace h := h.2
      have f8 := h.1; replace h := h.2
      have f9 := h.1; replace h := h.2
      have f10 := h.1; replace h := h.2
      have f11 := h.1; replace h := h.2
      have f12 := h.1; replace h := h.2
      have f13 := h.1; replace h := h.2
      have f14 := h.1; replace h := h.2
      have f15 := h.1; replace h := h.2
      have f16 := h.1; replace h := h.2
      have f17 := h.1; replace h := h.2
      have f18 := h.1; replace h := h.2
      have f19 := h; clear h
      intro K hK
      have g8 := f8 (hA 8 (by simp))
      obtain rfl := g8
      rw [if_pos (by kernel_rfl)]
      have q0 := cellB hHeld C0 hg
      have q1 := cellB hHeld C1 hg
      have q2 := cellB hHeld C2 hg
      have q3 := cellB hHeld C3 hg
      have q4 := cellB hHeld C4 hg
      go_simp
      try simp only [Act.put, List.setIfInBounds_toArray, List.set_cons_zero, List.set_cons_succ]
      refine hK.out _ _ ⟨_, _, _, _, _, _, _, _, _, _, _, _, _, _, _, _, _, _, _, _, rfl, ?_, ?_, ?_, ?_, ?_, ?_, ?_, ?_, ?_, ?_, ?_, ?_, ?_, ?_, ?_, ?_, ?_, ?_, ?_, ?_, ?_⟩
      · first | exact hHeld | exact hHeld.trans (hb.mono hHeld.size) | (trace_state; fail)
      · first | exact flag_ne (by decide) f0 | exact fun _ => rfl
      · first | exact flag_ne (by decide) f1 | exact fun _ => rfl
      · first | exact flag_ne (by decide) f2 | exact fun _ => rfl
      · intro h; rw [getD_set_ne false (by decide)] at h; have := f3 h; first | exact this | exact owns_below this hb | (trace_state; fail)
      · first | exact flag_ne (by decide) f4 | exact fun _ => rfl
      · first | exact flag_ne (by decide) f5 | exact fun _ => rfl
      · first | exact flag_ne (by decide) f6 | exact fun _ => rfl
      · first | exact flag_ne (by decide) f7 | exact fun _ => rfl
      · first | exact flag_ne (by decide) f8 | exact fun _ => rfl
      · first | exact flag_ne (by decide) f9 | exact fun _ => rfl
      · first | exact flag_ne (by decide) f10 | exact fun _ => rfl
      · intro _; first | rfl | (trace_state; fail)
      · first | exact flag_ne (by decide) f12 | exact fun _ => rfl
      · first | exact flag_ne (by decide) f13 | exact fun _ => rfl
      · first | exact flag_ne (by decide) f14 | exact fun _ => rfl
      · intro h; rw [getD_set_ne false (by decide)] at h; exact (getD_no h0 (hC.step (j := 12) (k := 11) (hC.step (j := 15) (k := 12) h (by kernel_rfl)) (by kernel_rfl))).elim
      · first | exact flag_ne (by decide) f16 | exact fun _ => rfl
      · first | exact flag_ne (by decide) f17 | exact fun _ => rfl
      · intro h; rw [getD_set_ne false (by decide)] at h; exact (getD_no h0 (hC.step (j := 12) (k := 11) (hC.step (j := 15) (k := 12) (hC.step (j := 16) (k := 15) (hC.step (j := 18) (k := 16) h (by kernel_rfl)) (by kernel_rfl)) (by kernel_rfl)) (by kernel_rfl))).elim
      · first | exact flag_ne (by decide) f19 | exact fun _ => rfl
    · refine StepAt.mk (o := { dst := some 29, op := Op.load 3 (Operand.tmp 28), type := 3, pos := _, after := #[{ on := 11, ground := Ground.data }, { on := 8, ground := Ground.guard }], guard := some (8, true) }) (ws := [11, 8]) rfl (by kernel_rfl) ?_
      intro L b v hC h0 hA h
      refine h.elim ?_; clear h; intro u2 h
      refine h.elim ?_; clear h; intro u3 h
      refine h.elim ?_; clear h; intro u17 h
      refine h.elim ?_; clear h; intro u18 h
      refine h.elim ?_; clear h; intro u19 h
      refine h.elim ?_; clear h; intro u20 h
      refine h.elim ?_; clear h; intro u21 h
      refine h.elim ?_; clear h; intro u22 h
      refine h.elim ?_; clear h; intro u23 h
      refine h.elim ?_; clear h; intro u24 h
      refine h.elim ?_; clear h; intro u25 h
      refine h.elim ?_; clear h; intro u26 h
      refine h.elim ?_; clear h; intro u27 h
      refine h.elim ?_; clear h; intro u28 h
      refine h.elim ?_; clear h; intro u29 h
      refine h.elim ?_; clear h; intro u30 h
      refine h.elim ?_; clear h; intro u31 h
      refine h.elim ?_; clear h; intro u32 h
      refine h.elim ?_; clear h; intro u33 h
      refine h.elim ?_; clear h; intro u34 h
      have hbb := h.1; replace h := h.2; subst hbb
      have hHeld := h.1; replace h := h.2
      have f0 := h.1; replace h := h.2
      have f1 := h.1; replace h := h.2
      have f2 := h.1; replace h := h.2
      have f3 := h.1; replace h := h.2
      have f4 := h.1; replace h := h.2
      have f5 := h.1; replace h := h.2
      have f6 := h.1; replace h := h.2
      have f7 := h.1; replace h := h.2
      have f8 := h.1; replace h := h.2
      have f9 := h.1; replace h := h.2
      have f10 := h.1; replace h := h.2
      have f11 := h.1; replace h := h.2
      have f12 := h.1; replace h := h.2
      have f13 := h.1; replace h := h.2
      have f14 := h.1; replace h := h.2
      have f15 := h.1; replace h := h.2
      have f16 := h.1; replace h := h.2
      have f17 := h.1; replace h := h.2
      have f18 := h.1; replace h := h.2
      have f19 := h; clear h
      intro K hK
      have g11 := f11 (hA 11 (by simp))
      obtain rfl := g11
      have g8 := f8 (hA 8 (by simp))
      obtain rfl := g8
      rw [if_pos (by kernel_rfl)]
      have q0 := cellB hHeld C0 hg
      have q1 := cellB hHeld C1 hg
      have q2 := cellB hHeld C2 hg
      have q3 := cellB hHeld C3 hg
      have q4 := cellB hHeld C4 hg
      go_simp
      try simp only [Act.put, List.setIfInBounds_toArray, List.set_cons_zero, List.set_cons_succ]
      refine hK.out _ _ ⟨_, _, _, _, _, _, _, _, _, _, _, _, _, _, _, _, _, _, _, _, rfl, ?_, ?_, ?_, ?_, ?_, ?_, ?_, ?_, ?_, ?_, ?_, ?_, ?_, ?_, ?_, ?_, ?_, ?_, ?_, ?_, ?_⟩
      · first | exact hHeld | exact hHeld.trans (hb.mono hHeld.size) | (trace_state; fail)
      · first | exact flag_ne (by decide) f0 | exact fun _ => rfl
      · first | exact flag_ne (by decide) f1 | exact fun _ => rfl
      · first | exact flag_ne (by decide) f2 | exact fun _ => rfl
      · intro h; rw [getD_set_ne false (by decide)] at h; have := f3 h; first | exact this | exact owns_below this hb | (trace_state; fail)
      · first | exact flag_ne (by decide) f4 | exact fun _ => rfl
      · first | exact flag_ne (by decide) f5 | exact fun _ => rfl
      · first | exact flag_ne (by decide) f6 | exact fun _ => rfl
      · first | exact flag_ne (by decide) f7 | exact fun _ => rfl
      · first | exact flag_ne (by decide) f8 | exact fun _ => rfl
      · first | exact flag_ne (by decide) f9 | exact fun _ => rfl
      · first | exact flag_ne (by decide) f10 | exact fun _ => rfl
      · first | exact flag_ne (by decide) f11 | exact fun _ => rfl
      · intro _; first | rfl | (trace_state; fail)
      · first | exact flag_ne (by decide) f13 | exact fun _ => rfl
      · first | exact flag_ne (by decide) f14 | exact fun _ => rfl
      · intro h; rw [getD_set_ne false (by decide)] at h; exact (getD_no h0 (hC.step (j := 15) (k := 12) h (by kernel_rfl))).elim
      · first | exact flag_ne (by decide) f16 | exact fun _ => rfl
      · first | exact flag_ne (by decide) f17 | exact fun _ => rfl
      · intro h; rw [getD_set_ne false (by decide)] at h; exact (getD_no h0 (hC.step (j := 15) (k := 12) (hC.step (j := 16) (k := 15) (hC.step (j := 18) (k := 16) h (by kernel_rfl)) (by kernel_rfl)) (by kernel_rfl))).elim
      · first | exact flag_ne (by decide) f19 | exact fun _ => rfl
    · refine StepAt.mk (o := { dst := some 30, op := Op.fieldAddr 41 (Operand.tmp 1) 3, type := 0, pos := _, after := #[{ on := 8, ground := Ground.guard }], guard := some (8, true) }) (ws := [8]) rfl (by kernel_rfl) ?_
      intro L b v hC h0 hA h
      refine h.elim ?_; clear h; intro u2 h
      refine h.elim ?_; clear h; intro u3 h
      refine h.elim ?_; clear h; intro u17 h
      refine h.elim ?_; clear h; intro u18 h
      refine h.elim ?_; clear h; intro u19 h
      refine h.elim ?_; clear h; intro u20 h
      refine h.elim ?_; clear h; intro u21 h
      refine h.elim ?_; clear h; intro u22 h
      refine h.elim ?_; clear h; intro u23 h
      refine h.elim ?_; clear h; intro u24 h
      refine h.elim ?_; clear h; intro u25 h
      refine h.elim ?_; clear h; intro u26 h
      refine h.elim ?_; clear h; intro u27 h
      refine h.elim ?_; clear h; intro u28 h
      refine h.elim ?_; clear h; intro u29 h
      refine h.elim ?_; clear h; intro u30 h
      refine h.elim ?_; clear h; intro u31 h
      refine h.elim ?_; clear h; intro u32 h
      refine h.elim ?_; clear h; intro u33 h
      refine h.elim ?_; clear h; intro u34 h
      have hbb := h.1; replace h := h.2; subst hbb
      have hHeld := h.1; replace h := h.2
      have f0 := h.1; replace h := h.2
      have f1 := h.1; replace h := h.2
      have f2 := h.1; replace h := h.2
      have f3 := h.1; replace h := h.2
      have f4 := h.1; replace h := h.2
      have f5 := h.1; replace h := h.2
      have f6 := h.1; replace h := h.2
      have f7 := h.1; replace h := h.2
      have f8 := h.1; replace h := h.2
      have f9 := h.1; replace h := h.2
      have f10 := h.1; replace h := h.2
      have f11 := h.1; replace h := h.2
      have f12 := h.1; replace h := h.2
      have f13 := h.1; replace h := h.2
      have f14 := h.1; replace h := h.2
      have f15 := h.1; replace h := h.2
      have f16 := h.1; replace h := h.2
      have f17 := h.1; replace h := h.2
      have f18 := h.1; replace h := h.2
      have f19 := h; clear h
      intro K hK
      have g8 := f8 (hA 8 (by simp))
      obtain rfl := g8
      rw [if_pos (by kernel_rfl)]
      have q0 := cellB hHeld C0 hg
      have q1 := cellB hHeld C1 hg
      have q2 := cellB hHeld C2 hg
      have q3 := cellB hHeld C3 hg
      have q4 := cellB hHeld C4 hg
      go_simp
      try simp only [Act.put, List.setIfInBounds_toArray, List.set_cons_zero, List.set_cons_succ]
      refine hK.out _ _ ⟨_, _, _, _, _, _, _, _, _, _, _, _, _, _, _, _, _, _, _, _, rfl, ?_, ?_, ?_, ?_, ?_, ?_, ?_, ?_, ?_, ?_, ?_, ?_, ?_, ?_, ?_, ?_, ?_, ?_, ?_, ?_, ?_⟩
      · first | exact hHeld | exact hHeld.trans (hb.mono hHeld.size) | (trace_state; fail)
      · first | exact flag_ne (by decide) f0 | exact fun _ => rfl
      · first | exact flag_ne (by decide) f1 | exact fun _ => rfl
      · first | exact flag_ne (by decide) f2 | exact fun _ => rfl
      · intro h; rw [getD_set_ne false (by decide)] at h; have := f3 h; first | exact this | exact owns_below this hb | (trace_state; fail)
      · first | exact flag_ne (by decide) f4 | exact fun _ => rfl
      · first | exact flag_ne (by decide) f5 | exact fun _ => rfl
      · first | exact flag_ne (by decide) f6 | exact fun _ => rfl
      · first | exact flag_ne (by decide) f7 | exact fun _ => rfl
      · first | exact flag_ne (by decide) f8 | exact fun _ => rfl
      · first | exact flag_ne (by decide) f9 | exact fun _ => rfl
      · first | exact flag_ne (by decide) f10 | exact fun _ => rfl
      · first | exact flag_ne (by decide) f11 | exact fun _ => rfl
      · first | exact flag_ne (by decide) f12 | exact fun _ => rfl
      · intro _; first | rfl | (trace_state; fail)
      · first | exact flag_ne (by decide) f14 | exact fun _ => rfl
      · intro h; rw [getD_set_ne false (by decide)] at h; exact (getD_no h0 (hC.step (j := 14) (k := 13) (hC.step (j := 15) (k := 14) h (by kernel_rfl)) (by kernel_rfl))).elim
      · first | exact flag_ne (by decide) f16 | exact fun _ => rfl
      · first | exact flag_ne (by decide) f17 | exact fun _ => rfl
      · intro h; rw [getD_set_ne false (by decide)] at h; exact (getD_no h0 (hC.step (j := 14) (k := 13) (hC.step (j := 15) (k := 14) (hC.step (j := 16) (k := 15) (hC.step (j := 18) (k := 16) h (by kernel_rfl)) (by kernel_rfl)) (by kernel_rfl)) (by kernel_rfl))).elim
      · first | exact flag_ne (by decide) f19 | exact fun _ => rfl
    · refine StepAt.mk (o := { dst := some 31, op := Op.load 3 (Operand.tmp 30), type := 3, pos := _, after := #[{ on := 13, ground := Ground.data }, { on := 8, ground := Ground.guard }], guard := some (8, true) }) (ws := [13, 8]) rfl (by kernel_rfl) ?_
      intro L b v hC h0 hA h
      refine h.elim ?_; clear h; intro u2 h
      refine h.elim ?_; clear h; intro u3 h
      refine h.elim ?_; clear h; intro u17 h
      refine h.elim ?_; clear h; intro u18 h
      refine h.elim ?_; clear h; intro u19 h
      refine h.elim ?_; clear h; intro u20 h
      refine h.elim ?_; clear h; intro u21 h
      refine h.elim ?_; clear h; intro u22 h
      refine h.elim ?_; clear h; intro u23 h
      refine h.elim ?_; clear h; intro u24 h
      refine h.elim ?_; clear h; intro u25 h
      refine h.elim ?_; clear h; intro u26 h
      refine h.elim ?_; clear h; intro u27 h
      refine h.elim ?_; clear h; intro u28 h
      refine h.elim ?_; clear h; intro u29 h
      refine h.elim ?_; clear h; intro u30 h
      refine h.elim ?_; clear h; intro u31 h
      refine h.elim ?_; clear h; intro u32 h
      refine h.elim ?_; clear h; intro u33 h
      refine h.elim ?_; clear h; intro u34 h
      have hbb := h.1; replace h := h.2; subst hbb
      have hHeld := h.1; replace h := h.2
      have f0 := h.1; replace h := h.2
      have f1 := h.1; replace h := h.2
      have f2 := h.1; replace h := h.2
      have f3 := h.1; replace h := h.2
      have f4 := h.1; replace h := h.2
      have f5 := h.1; replace h := h.2
      have f6 := h.1; replace h := h.2
      have f7 := h.1; replace h := h.2
      have f8 := h.1; replace h := h.2
      have f9 := h.1; replace h := h.2
      have f10 := h.1; replace h := h.2
      have f11 := h.1; replace h := h.2
      have f12 := h.1; replace h := h.2
      have f13 := h.1; replace h := h.2
      have f14 := h.1; replace h := h.2
      have f15 := h.1; replace h := h.2
      have f16 := h.1; replace h := h.2
      have f17 := h.1; replace h := h.2
      have f18 := h.1; replace h := h.2
      have f19 := h; clear h
      intro K hK
      have g13 := f13 (hA 13 (by simp))
      obtain rfl := g13
      have g8 := f8 (hA 8 (by simp))
      obtain rfl := g8
      rw [if_pos (by kernel_rfl)]
      have q0 := cellB hHeld C0 hg
      have q1 := cellB hHeld C1 hg
      have q2 := cellB hHeld C2 hg
      have q3 := cellB hHeld C3 hg
      have q4 := cellB hHeld C4 hg
      go_simp
      try simp only [Act.put, List.setIfInBounds_toArray, List.set_cons_zero, List.set_cons_succ]
      refine hK.out _ _ ⟨_, _, _, _, _, _, _, _, _, _, _, _, _, _, _, _, _, _, _, _, rfl, ?_, ?_, ?_, ?_, ?_, ?_, ?_, ?_, ?_, ?_, ?_, ?_, ?_, ?_, ?_, ?_, ?_, ?_, ?_, ?_, ?_⟩
      · first | exact hHeld | exact hHeld.trans (hb.mono hHeld.size) | (trace_state; fail)
      · first | exact flag_ne (by decide) f0 | exact fun _ => rfl
      · first | exact flag_ne (by decide) f1 | exact fun _ => rfl
      · first | exact flag_ne (by decide) f2 | exact fun _ => rfl
      · intro h; rw [getD_set_ne false (by decide)] at h; have := f3 h; first | exact this | exact owns_below this hb | (trace_state; fail)
      · first | exact flag_ne (by decide) f4 | exact fun _ => rfl
      · first | exact flag_ne (by decide) f5 | exact fun _ => rfl
      · first | exact flag_ne (by decide) f6 | exact fun _ => rfl
      · first | exact flag_ne (by decide) f7 | exact fun _ => rfl
      · first | exact flag_ne (by decide) f8 | exact fun _ => rfl
      · first | exact flag_ne (by decide) f9 | exact fun _ => rfl
      · first | exact flag_ne (by decide) f10 | exact fun _ => rfl
      · first | exact flag_ne (by decide) f11 | exact fun _ => rfl
      · first | exact flag_ne (by decide) f12 | exact fun _ => rfl
      · first | exact flag_ne (by decide) f13 | exact fun _ => rfl
      · intro _; first | rfl | (trace_state; fail)
      · intro h; rw [getD_set_ne false (by decide)] at h; exact (getD_no h0 (hC.step (j := 15) (k := 14) h (by kernel_rfl))).elim
      · first | exact flag_ne (by decide) f16 | exact fun _ => rfl
      · first | exact flag_ne (by decide) f17 | exact fun _ => rfl
      · intro h; rw [getD_set_ne false (by decide)] at h; exact (getD_no h0 (hC.step (j := 15) (k := 14) (hC.step (j := 16) (k := 15) (hC.step (j := 18) (k := 16) h (by kernel_rfl)) (by kernel_rfl)) (by kernel_rfl))).elim
      · first | exact flag_ne (by decide) f19 | exact fun _ => rfl
    · refine StepAt.mk (o := { dst := some 32, op := Op.buildSlice 45 3 #[(0, Operand.tmp 27), (1, Operand.tmp 29), (2, Operand.tmp 31)], type := 45, pos := _, after := #[{ on := 10, ground := Ground.data }, { on := 12, ground := Ground.data }, { on := 14, ground := Ground.data }, { on := 8, ground := Ground.guard }], guard := some (8, true) }) (ws := [10, 12, 14, 8]) rfl (by kernel_rfl) ?_
      intro L b v hC h0 hA h
      refine h.elim ?_; clear h; intro u2 h
      refine h.elim ?_; clear h; intro u3 h
      refine h.elim ?_; clear h; intro u17 h
      refine h.elim ?_; clear h; intro u18 h
      refine h.elim ?_; clear h; intro u19 h
      refine h.elim ?_; clear h; intro u20 h
      refine h.elim ?_; clear h; intro u21 h
      refine h.elim ?_; clear h; intro u22 h
      refine h.elim ?_; clear h; intro u23 h
      refine h.elim ?_; clear h; intro u24 h
      refine h.elim ?_; clear h; intro u25 h
      refine h.elim ?_; clear h; intro u26 h
      refine h.elim ?_; clear h; intro u27 h
      refine h.elim ?_; clear h; intro u28 h
      refine h.elim ?_; clear h; intro u29 h
      refine h.elim ?_; clear h; intro u30 h
      refine h.elim ?_; clear h; intro u31 h
      refine h.elim ?_; clear h; intro u32 h
      refine h.elim ?_; clear h; intro u33 h
      refine h.elim ?_; clear h; intro u34 h
      have hbb := h.1; replace h := h.2; subst hbb
      have hHeld := h.1; replace h := h.2
      have f0 := h.1; replace h := h.2
      have f1 := h.1; replace h := h.2
      have f2 := h.1; replace h := h.2
      have f3 := h.1; replace h := h.2
      have f4 := h.1; replace h := h.2
      have f5 := h.1; replace h := h.2
      have f6 := h.1; replace h := h.2
      have f7 := h.1; replace h := h.2
      have f8 := h.1; replace h := h.2
      have f9 := h.1; replace h := h.2
      have f10 := h.1; replace h := h.2
      have f11 := h.1; replace h := h.2
      have f12 := h.1; replace h := h.2
      have f13 := h.1; replace h := h.2
      have f14 := h.1; replace h := h.2
      have f15 := h.1; replace h := h.2
      have f16 := h.1; replace h := h.2
      have f17 := h.1; replace h := h.2
      have f18 := h.1; replace h := h.2
      have f19 := h; clear h
      intro K hK
      have g10 := f10 (hA 10 (by simp))
      obtain rfl := g10
      have g12 := f12 (hA 12 (by simp))
      obtain rfl := g12
      have g14 := f14 (hA 14 (by simp))
      obtain rfl := g14
      have g8 := f8 (hA 8 (by simp))
      obtain rfl := g8
      rw [if_pos (by kernel_rfl)]
      have q0 := cellB hHeld C0 hg
      have q1 := cellB hHeld C1 hg
      have q2 := cellB hHeld C2 hg
      have q3 := cellB hHeld C3 hg
      have q4 := cellB hHeld C4 hg
      go_simp
      try simp only [Act.put, List.setIfInBounds_toArray, List.set_cons_zero, List.set_cons_succ]
      have hb : Below v.heap.size v (v.alloc (.cells #[.int .i64 x.t, .int .i64 x.n, .int .i64 x.area] 3)) := (Below.refl _ _).alloc (Nat.le_refl _) _
      refine hK.out _ _ ⟨_, _, _, _, _, _, _, _, _, _, _, _, _, _, _, _, _, _, _, _, rfl, ?_, ?_, ?_, ?_, ?_, ?_, ?_, ?_, ?_, ?_, ?_, ?_, ?_, ?_, ?_, ?_, ?_, ?_, ?_, ?_, ?_⟩
      · first | exact hHeld | exact hHeld.trans (hb.mono hHeld.size) | (trace_state; fail)
      · first | exact flag_ne (by decide) f0 | exact fun _ => rfl
      · first | exact flag_ne (by decide) f1 | exact fun _ => rfl
      · first | exact flag_ne (by decide) f2 | exact fun _ => rfl
      · intro h; rw [getD_set_ne false (by decide)] at h; have := f3 h; first | exact this | exact owns_below this hb | (trace_state; fail)
      · first | exact flag_ne (by decide) f4 | exact fun _ => rfl
      · first | exact flag_ne (by decide) f5 | exact fun _ => rfl
      · first | exact flag_ne (by decide) f6 | exact fun _ => rfl
      · first | exact flag_ne (by decide) f7 | exact fun _ => rfl
      · first | exact flag_ne (by decide) f8 | exact fun _ => rfl
      · first | exact flag_ne (by decide) f9 | exact fun _ => rfl
      · first | exact flag_ne (by decide) f10 | exact fun _ => rfl
      · first | exact flag_ne (by decide) f11 | exact fun _ => rfl
      · first | exact flag_ne (by decide) f12 | exact fun _ => rfl
      · first | exact flag_ne (by decide) f13 | exact fun _ => rfl
      · first | exact flag_ne (by decide) f14 | exact fun _ => rfl
      · intro _; first | exact ⟨_, rfl, owns_int3 _ _ _ _ hHeld.size⟩ | (trace_state; fail)
      · first | exact flag_ne (by decide) f16 | exact fun _ => rfl
      · first | exact flag_ne (by decide) f17 | exact fun _ => rfl
      · intro h; rw [getD_set_ne false (by decide)] at h; exact (getD_no h0 (hC.step (j := 16) (k := 15) (hC.step (j := 18) (k := 16) h (by kernel_rfl)) (by kernel_rfl))).elim
      · first | exact flag_ne (by decide) f19 | exact fun _ => rfl
    · refine StepAt.mk (o := { dst := some 33, op := Op.call { callee := Callee.value (Operand.func 48), args := #[Operand.tmp 32], argTypes := #[45] }, type := 4, pos := _, after := #[{ on := 15, ground := Ground.data }, { on := 8, ground := Ground.chain }, { on := 8, ground := Ground.guard }], guard := some (8, true) }) (ws := [15, 8, 8]) rfl (by kernel_rfl) ?_
      intro L b v hC h0 hA h
      refine h.elim ?_; clear h; intro u2 h
      refine h.elim ?_; clear h; intro u3 h
      refine h.elim ?_; clear h; intro u17 h
      refine h.elim ?_; clear h; intro u18 h
      refine h.elim ?_; clear h; intro u19 h
      refine h.elim ?_; clear h; intro u20 h
      refine h.elim ?_; clear h; intro u21 h
      refine h.elim ?_; clear h; intro u22 h
      refine h.elim ?_; clear h; intro u23 h
      refine h.elim ?_; clear h; intro u24 h
      refine h.elim ?_; clear h; intro u25 h
      refine h.elim ?_; clear h; intro u26 h
      refine h.elim ?_; clear h; intro u27 h
      refine h.elim ?_; clear h; intro u28 h
      refine h.elim ?_; clear h; intro u29 h
      refine h.elim ?_; clear h; intro u30 h
      refine h.elim ?_; clear h; intro u31 h
      refine h.elim ?_; clear h; intro u32 h
      refine h.elim ?_; clear h; intro u33 h
      refine h.elim ?_; clear h; intro u34 h
      have hbb := h.1; replace h := h.2; subst hbb
      have hHeld := h.1; replace h := h.2
      have f0 := h.1; replace h := h.2
      have f1 := h.1; replace h := h.2
      have f2 := h.1; replace h := h.2
      have f3 := h.1; replace h := h.2
      have f4 := h.1; replace h := h.2
      have f5 := h.1; replace h := h.2
      have f6 := h.1; replace h := h.2
      have f7 := h.1; replace h := h.2
      have f8 := h.1; replace h := h.2
      have f9 := h.1; replace h := h.2
      have f10 := h.1; replace h := h.2
      have f11 := h.1; replace h := h.2
      have f12 := h.1; replace h := h.2
      have f13 := h.1; replace h := h.2
      have f14 := h.1; replace h := h.2
      have f15 := h.1; replace h := h.2
      have f16 := h.1; replace h := h.2
      have f17 := h.1; replace h := h.2
      have f18 := h.1; replace h := h.2
      have f19 := h; clear h
      intro K hK
      have g15 := f15 (hA 15 (by simp))
      obtain ⟨q32, rfl, H32⟩ := g15
      have g8 := f8 (hA 8 (by simp))
      obtain rfl := g8
      rw [if_pos (by kernel_rfl)]
      have q0 := cellB hHeld C0 hg
      have q1 := cellB hHeld C1 hg
      have q2 := cellB hHeld C2 hg
      have q3 := cellB hHeld C3 hg
      have q4 := cellB hHeld C4 hg
      go_simp
      refine (tab_fits _ [x.t, x.n, x.area] v (row_of_owns H32 (fun z hz => by simp at hz; rcases hz with rfl | rfl | rfl <;> assumption))).mono ?_; rintro e v1 ⟨rfl, m, rfl⟩; have hb : Below v.heap.size v (v.drewN m) := Below_drewN _ _ _; rw [show [x.t, x.n, x.area].all fitB = (fitB x.t && (fitB x.n && fitB x.area)) by simp]
      go_wp2_with fail
      try simp only [Act.put, List.setIfInBounds_toArray, List.set_cons_zero, List.set_cons_succ]
      refine hK.out _ _ ⟨_, _, _, _, _, _, _, _, _, _, _, _, _, _, _, _, _, _, _, _, rfl, ?_, ?_, ?_, ?_, ?_, ?_, ?_, ?_, ?_, ?_, ?_, ?_, ?_, ?_, ?_, ?_, ?_, ?_, ?_, ?_, ?_⟩
      · first | exact hHeld | exact hHeld.trans (hb.mono hHeld.size) | (trace_state; fail)
      · first | exact flag_ne (by decide) f0 | exact fun _ => rfl
      · first | exact flag_ne (by decide) f1 | exact fun _ => rfl
      · first | exact flag_ne (by decide) f2 | exact fun _ => rfl
      · intro h; rw [getD_set_ne false (by decide)] at h; have := f3 h; first | exact this | exact owns_below this hb | (trace_state; fail)
      · first | exact flag_ne (by decide) f4 | exact fun _ => rfl
      · first | exact flag_ne (by decide) f5 | exact fun _ => rfl
      · first | exact flag_ne (by decide) f6 | exact fun _ => rfl
      · first | exact flag_ne (by decide) f7 | exact fun _ => rfl
      · first | exact flag_ne (by decide) f8 | exact fun _ => rfl
      · first | exact flag_ne (by decide) f9 | exact fun _ => rfl
      · first | exact flag_ne (by decide) f10 | exact fun _ => rfl
      · first | exact flag_ne (by decide) f11 | exact fun _ => rfl
      · first | exact flag_ne (by decide) f12 | exact fun _ => rfl
      · first | exact flag_ne (by decide) f13 | exact fun _ => rfl
      · first | exact flag_ne (by decide) f14 | exact fun _ => rfl
      · intro h; rw [getD_set_ne false (by decide)] at h; have := f15 h; obtain ⟨q, e1, e2⟩ := this; exact (by first | exact ⟨q, e1, e2⟩ | exact ⟨q, e1, owns_below e2 hb⟩ | (trace_state; fail))
      · intro _; first | rfl | (trace_state; fail)
      · first | exact flag_ne (by decide) f17 | exact fun _ => rfl
      · intro h; rw [getD_set_ne false (by decide)] at h; exact (getD_no h0 (hC.step (j := 18) (k := 16) h (by kernel_rfl))).elim
      · first | exact flag_ne (by decide) f19 | exact fun _ => rfl
    · refine StepAt.mk (o := { dst := some 34, op := Op.pick (Operand.tmp 25) (Operand.tmp 33) (Operand.const (Value.bool false)), type := 4, pos := _, after := #[{ on := 8, ground := Ground.data }, { on := 16, ground := Ground.data }, { on := 18, ground := Ground.gcOnly Departure.lateStores }], guard := none }) (ws := [8, 16]) rfl (by kernel_rfl) ?_
      intro L b v hC h0 hA h
      refine h.elim ?_; clear h; intro u2 h
      refine h.elim ?_; clear h; intro u3 h
      refine h.elim ?_; clear h; intro u17 h
      refine h.elim ?_; clear h; intro u18 h
      refine h.elim ?_; clear h; intro u19 h
      refine h.elim ?_; clear h; intro u20 h
      refine h.elim ?_; clear h; intro u21 h
      refine h.elim ?_; clear h; intro u22 h
      refine h.elim ?_; clear h; intro u23 h
      refine h.elim ?_; clear h; intro u24 h
      refine h.elim ?_; clear h; intro u25 h
      refine h.elim ?_; clear h; intro u26 h
      refine h.elim ?_; clear h; intro u27 h
      refine h.elim ?_; clear h; intro u28 h
      refine h.elim ?_; clear h; intro u29 h
      refine h.elim ?_; clear h; intro u30 h
      refine h.elim ?_; clear h; intro u31 h
      refine h.elim ?_; clear h; intro u32 h
      refine h.elim ?_; clear h; intro u33 h
      refine h.elim ?_; clear h; intro u34 h
      have hbb := h.1; replace h := h.2; subst hbb
      have hHeld := h.1; replace h := h.2
      have f0 := h.1; replace h := h.2
      have f1 := h.1; replace h := h.2
      have f2 := h.1; replace h := h.2
      have f3 := h.1; replace h := h.2
      have f4 := h.1; replace h := h.2
      have f5 := h.1; replace h := h.2
      have f6 := h.1; replace h := h.2
      have f7 := h.1; replace h := h.2
      have f8 := h.1; replace h := h.2
      have f9 := h.1; replace h := h.2
      have f10 := h.1; replace h := h.2
      have f11 := h.1; replace h := h.2
      have f12 := h.1; replace h := h.2
      have f13 := h.1; replace h := h.2
      have f14 := h.1; replace h := h.2
      have f15 := h.1; replace h := h.2
      have f16 := h.1; replace h := h.2
      have f17 := h.1; replace h := h.2
      have f18 := h.1; replace h := h.2
      have f19 := h; clear h
      intro K hK
      have g8 := f8 (hA 8 (by simp))
      obtain rfl := g8
      have g16 := f16 (hA 16 (by simp))
      obtain rfl := g16
      rw [if_pos (by kernel_rfl)]
      have q0 := cellB hHeld C0 hg
      have q1 := cellB hHeld C1 hg
      have q2 := cellB hHeld C2 hg
      have q3 := cellB hHeld C3 hg
      have q4 := cellB hHeld C4 hg
      go_simp
      try simp only [Act.put, List.setIfInBounds_toArray, List.set_cons_zero, List.set_cons_succ]
      refine hK.out _ _ ⟨_, _, _, _, _, _, _, _, _, _, _, _, _, _, _, _, _, _, _, _, rfl, ?_, ?_, ?_, ?_, ?_, ?_, ?_, ?_, ?_, ?_, ?_, ?_, ?_, ?_, ?_, ?_, ?_, ?_, ?_, ?_, ?_⟩
      · first | exact hHeld | exact hHeld.trans (hb.mono hHeld.size) | (trace_state; fail)
      · first | exact flag_ne (by decide) f0 | exact fun _ => rfl
      · first | exact flag_ne (by decide) f1 | exact fun _ => rfl
      · first | exact flag_ne (by decide) f2 | exact fun _ => rfl
      · intro h; rw [getD_set_ne false (by decide)] at h; have := f3 h; first | exact this | exact owns_below this hb | (trace_state; fail)
      · first | exact flag_ne (by decide) f4 | exact fun _ => rfl
      · first | exact flag_ne (by decide) f5 | exact fun _ => rfl
      · first | exact flag_ne (by decide) f6 | exact fun _ => rfl
      · first | exact flag_ne (by decide) f7 | exact fun _ => rfl
      · first | exact flag_ne (by decide) f8 | exact fun _ => rfl
      · first | exact flag_ne (by decide) f9 | exact fun _ => rfl
      · first | exact flag_ne (by decide) f10 | exact fun _ => rfl
      · first | exact flag_ne (by decide) f11 | exact fun _ => rfl
      · first | exact flag_ne (by decide) f12 | exact fun _ => rfl
      · first | exact flag_ne (by decide) f13 | exact fun _ => rfl
      · first | exact flag_ne (by decide) f14 | exact fun _ => rfl
      · intro h; rw [getD_set_ne false (by decide)] at h; have := f15 h; obtain ⟨q, e1, e2⟩ := this; exact (by first | exact ⟨q, e1, e2⟩ | exact ⟨q, e1, owns_below e2 hb⟩ | (trace_state; fail))
      · first | exact flag_ne (by decide) f16 | exact fun _ => rfl
      · intro _; first | rfl | (trace_state; fail)
      · intro h; rw [getD_set_ne false (by decide)] at h; have := f18 h; first | exact this | exact owns_below this hb | (trace_state; fail)
      · first | exact flag_ne (by decide) f19 | exact fun _ => rfl
    · refine StepAt.mk (o := { dst := some 2, op := Op.assign (Operand.tmp 20), type := 30, pos := _, after := #[{ on := 3, ground := Ground.data }, { on := 16, ground := Ground.chain }, { on := 0, ground := Ground.phase }, { on := 1, ground := Ground.phase }, { on := 2, ground := Ground.phase }, { on := 3, ground := Ground.phase }, { on := 4, ground := Ground.textOnly Departure.lateStores }, { on := 5, ground := Ground.textOnly Departure.lateStores }, { on := 6, ground := Ground.textOnly Departure.lateStoresUnsure }, { on := 7, ground := Ground.textOnly Departure.lateStores }, { on := 8, ground := Ground.textOnly Departure.lateStores }, { on := 9, ground := Ground.textOnly Departure.lateStores }, { on := 10, ground := Ground.textOnly Departure.lateStores }, { on := 11, ground := Ground.textOnly Departure.lateStores }, { on := 12, ground := Ground.textOnly Departure.lateStores }, { on := 13, ground := Ground.textOnly Departure.lateStores }, { on := 14, ground := Ground.textOnly Departure.lateStores }, { on := 15, ground := Ground.textOnly Departure.lateStores }, { on := 16, ground := Ground.textOnly Departure.lateStoresUnsure }, { on := 17, ground := Ground.textOnly Departure.lateStores }], guard := none }) (ws := [3, 16, 0, 1, 2, 3]) rfl (by kernel_rfl) ?_
      intro L b v hC h0 hA h
      refine h.elim ?_; clear h; intro u2 h
      refine h.elim ?_; clear h; intro u3 h
      refine h.elim ?_; clear h; intro u17 h
      refine h.elim ?_; clear h; intro u18 h
      refine h.elim ?_; clear h; intro u19 h
      refine h.elim ?_; clear h; intro u20 h
      refine h.elim ?_; clear h; intro u21 h
      refine h.elim ?_; clear h; intro u22 h
      refine h.elim ?_; clear h; intro u23 h
      refine h.elim ?_; clear h; intro u24 h
      refine h.elim ?_; clear h; intro u25 h
      refine h.elim ?_; clear h; intro u26 h
      refine h.elim ?_; clear h; intro u27 h
      refine h.elim ?_; clear h; intro u28 h
      refine h.elim ?_; clear h; intro u29 h
      refine h.elim ?_; clear h; intro u30 h
      refine h.elim ?_; clear h; intro u31 h
      refine h.elim ?_; clear h; intro u32 h
      refine h.elim ?_; clear h; intro u33 h
      refine h.elim ?_; clear h; intro u34 h
      have hbb := h.1; replace h := h.2; subst hbb
      have hHeld := h.1; replace h := h.2
      have f0 := h.1; replace h := h.2
      have f1 := h.1; replace h := h.2
      have f2 := h.1; replace h := h.2
      have f3 := h.1; replace h := h.2
      have f4 := h.1; replace h := h.2
      have f5 := h.1; replace h := h.2
      have f6 := h.1; replace h := h.2
      have f7 := h.1; replace h := h.2
      have f8 := h.1; replace h := h.2
      have f9 := h.1; replace h := h.2
      have f10 := h.1; replace h := h.2
      have f11 := h.1; replace h := h.2
      have f12 := h.1; replace h := h.2
      have f13 := h.1; replace h := h.2
      have f14 := h.1; replace h := h.2
      have f15 := h.1; replace h := h.2
      have f16 := h.1; replace h := h.2
      have f17 := h.1; replace h := h.2
      have f18 := h.1; replace h := h.2
      have f19 := h; clear h
      intro K hK
      have g3 := f3 (hA 3 (by simp))
      have g16 := f16 (hA 16 (by simp))
      obtain rfl := g16
      have g0 := f0 (hA 0 (by simp))
      obtain rfl := g0
      have g1 := f1 (hA 1 (by simp))
      obtain rfl := g1
      have g2 := f2 (hA 2 (by simp))
      obtain rfl := g2
      rw [if_pos (by kernel_rfl)]
      have q0 := cellB hHeld C0 hg
      have q1 := cellB hHeld C1 hg
      have q2 := cellB hHeld C2 hg
      have q3 := cellB hHeld C3 hg
      have q4 := cellB hHeld C4 hg
      go_simp
      try simp only [Act.put, List.setIfInBounds_toArray, List.set_cons_zero, List.set_cons_succ]
      refine hK.out _ _ ⟨_, _, _, _, _, _, _, _, _, _, _, _, _, _, _, _, _, _, _, _, rfl, ?_, ?_, ?_, ?_, ?_, ?_, ?_, ?_, ?_, ?_, ?_, ?_, ?_, ?_, ?_, ?_, ?_, ?_, ?_, ?_, ?_⟩
      · first | exact hHeld | exact hHeld.trans (hb.mono hHeld.size) | (trace_state; fail)
      · first | exact flag_ne (by decide) f0 | exact fun _ => rfl
      · first | exact flag_ne (by decide) f1 | exact fun _ => rfl
      · first | exact flag_ne (by decide) f2 | exact fun _ => rfl
      · intro h; rw [getD_set_ne false (by decide)] at h; have := f3 h; first | exact this | exact owns_below this hb | (trace_state; fail)
      · first | exact flag_ne (by decide) f4 | exact fun _ => rfl
      · first | exact flag_ne (by decide) f5 | exact fun _ => rfl
      · first | exact flag_ne (by decide) f6 | exact fun _ => rfl
      · first | exact flag_ne (by decide) f7 | exact fun _ => rfl
      · first | exact flag_ne (by decide) f8 | exact fun _ => rfl
      · first | exact flag_ne (by decide) f9 | exact fun _ => rfl
      · first | exact flag_ne (by decide) f10 | exact fun _ => rfl
      · first | exact flag_ne (by decide) f11 | exact fun _ => rfl
      · first | exact flag_ne (by decide) f12 | exact fun _ => rfl
      · first | exact flag_ne (by decide) f13 | exact fun _ => rfl
      · first | exact flag_ne (by decide) f14 | exact fun _ => rfl
      · intro h; rw [getD_set_ne false (by decide)] at h; have := f15 h; obtain ⟨q, e1, e2⟩ := this; exact (by first | exact ⟨q, e1, e2⟩ | exact ⟨q, e1, owns_below e2 hb⟩ | (trace_state; fail))
      · first | exact flag_ne (by decide) f16 | exact fun _ => rfl
      · first | exact flag_ne (by decide) f17 | exact fun _ => rfl
      · intro _; first | exact g3 | (trace_state; fail)
      · first | exact flag_ne (by decide) f19 | exact fun _ => rfl
    · refine StepAt.mk (o := { dst := some 3, op := Op.assign (Operand.tmp 34), type := 4, pos := _, after := #[{ on := 17, ground := Ground.data }, { on := 18, ground := Ground.chain }, { on := 0, ground := Ground.phase }, { on := 1, ground := Ground.phase }, { on := 2, ground := Ground.phase }, { on := 3, ground := Ground.phase }, { on := 4, ground := Ground.phase }, { on := 5, ground := Ground.phase }, { on := 6, ground := Ground.phase }, { on := 7, ground := Ground.phase }, { on := 8, ground := Ground.phase }, { on := 9, ground := Ground.phase }, { on := 10, ground := Ground.phase }, { on := 11, ground := Ground.phase }, { on := 12, ground := Ground.phase }, { on := 13, ground := Ground.phase }, { on := 14, ground := Ground.phase }, { on := 15, ground := Ground.phase }, { on := 16, ground := Ground.phase }, { on := 17, ground := Ground.phase }, { on := 18, ground := Ground.phase }], guard := none }) (ws := [17, 18, 0, 1, 2, 3, 4, 5, 6, 7, 8, 9, 10, 11, 12, 13, 14, 15, 16, 17, 18]) rfl (by kernel_rfl) ?_
      intro L b v hC h0 hA h
      refine h.elim ?_; clear h; intro u2 h
      refine h.elim ?_; clear h; intro u3 h
      refine h.elim ?_; clear h; intro u17 h
      refine h.elim ?_; clear h; intro u18 h
      refine h.elim ?_; clear h; intro u19 h
      refine h.elim ?_; clear h; intro u20 h
      refine h.elim ?_; clear h; intro u21 h
      refine h.elim ?_; clear h; intro u22 h
      refine h.elim ?_; clear h; intro u23 h
      refine h.elim ?_; clear h; intro u24 h
      refine h.elim ?_; clear h; intro u25 h
      refine h.elim ?_; clear h; intro u26 h
      refine h.elim ?_; clear h; intro u27 h
      refine h.elim ?_; clear h; intro u28 h
      refine h.elim ?_; clear h; intro u29 h
      refine h.elim ?_; clear h; intro u30 h
      refine h.elim ?_; clear h; intro u31 h
      refine h.elim ?_; clear h; intro u32 h
      refine h.elim ?_; clear h; intro u33 h
      refine h.elim ?_; clear h; intro u34 h
      have hbb := h.1; replace h := h.2; subst hbb
      have hHeld := h.1; replace h := h.2
      have f0 := h.1; replace h := h.2
      have f1 := h.1; replace h := h.2
      have f2 := h.1; replace h := h.2
      have f3 := h.1; replace h := h.2
      have f4 := h.1; replace h := h.2
      have f5 := h.1; replace h := h.2
      have f6 := h.1; replace h := h.2
      have f7 := h.1; replace h := h.2
      have f8 := h.1; replace h := h.2
      have f9 := h.1; replace h := h.2
      have f10 := h.1; replace h := h.2
      have f11 := h.1; replace h := h.2
      have f12 := h.1; replace h := h.2
      have f13 := h.1; replace h := h.2
      have f14 := h.1; replace h := h.2
      have f15 := h.1; replace h := h.2
      have f16 := h.1; replace h := h.2
      have f17 := h.1; replace h := h.2
      have f18 := h.1; replace h := h.2
      have f19 := h; clear h
      intro K hK
      have g17 := f17 (hA 17 (by simp))
      obtain rfl := g17
      have g18 := f18 (hA 18 (by simp))
      have g0 := f0 (hA 0 (by simp))
      obtain rfl := g0
      have g1 := f1 (hA 1 (by simp))
      obtain rfl := g1
      have g2 := f2 (hA 2 (by simp))
      obtain rfl := g2
      have g3 := f3 (hA 3 (by simp))
      have g4 := f4 (hA 4 (by simp))
      obtain rfl := g4
      have g5 := f5 (hA 5 (by simp))
      obtain rfl := g5
      have g6 := f6 (hA 6 (by simp))
      obtain rfl := g6
      have g7 := f7 (hA 7 (by simp))
      obtain rfl := g7
      have g8 := f8 (hA 8 (by simp))
      obtain rfl := g8
      have g9 := f9 (hA 9 (by simp))
      obtain rfl := g9
      have g10 := f10 (hA 10 (by simp))
      obtain rfl := g10
      have g11 := f11 (hA 11 (by simp))
      obtain rfl := g11
      have g12 := f12 (hA 12 (by simp))
      obtain rfl := g12
      have g13 := f13 (hA 13 (by simp))
      obtain rfl := g13
      have g14 := f14 (hA 14 (by simp))
      obtain rfl := g14
      have g15 := f15 (hA 15 (by simp))
      obtain ⟨q32, rfl, H32⟩ := g15
      have g16 := f16 (hA 16 (by simp))
      obtain rfl := g16
      rw [if_pos (by kernel_rfl)]
      have q0 := cellB hHeld C0 hg
      have q1 := cellB hHeld C1 hg
      have q2 := cellB hHeld C2 hg
      have q3 := cellB hHeld C3 hg
      have q4 := cellB hHeld C4 hg
      go_simp
      try simp only [Act.put, List.setIfInBounds_toArray, List.set_cons_zero, List.set_cons_succ]
      refine hK.out _ _ ⟨_, _, _, _, _, _, _, _, _, _, _, _, _, _, _, _, _, _, _, _, rfl, ?_, ?_, ?_, ?_, ?_, ?_, ?_, ?_, ?_, ?_, ?_, ?_, ?_, ?_, ?_, ?_, ?_, ?_, ?_, ?_, ?_⟩
      · first | exact hHeld | exact hHeld.trans (hb.mono hHeld.size) | (trace_state; fail)
      · first | exact flag_ne (by decide) f0 | exact fun _ => rfl
      · first | exact flag_ne (by decide) f1 | exact fun _ => rfl
      · first | exact flag_ne (by decide) f2 | exact fun _ => rfl
      · intro h; rw [getD_set_ne false (by decide)] at h; have := f3 h; first | exact this | exact owns_below this hb | (trace_state; fail)
      · first | exact flag_ne (by decide) f4 | exact fun _ => rfl
      · first | exact flag_ne (by decide) f5 | exact fun _ => rfl
      · first | exact flag_ne (by decide) f6 | exact fun _ => rfl
      · first | exact flag_ne (by decide) f7 | exact fun _ => rfl
      · first | exact flag_ne (by decide) f8 | exact fun _ => rfl
      · first | exact flag_ne (by decide) f9 | exact fun _ => rfl
      · first | exact flag_ne (by decide) f10 | exact fun _ => rfl
      · first | exact flag_ne (by decide) f11 | exact fun _ => rfl
      · first | exact flag_ne (by decide) f12 | exact fun _ => rfl
      · first | exact flag_ne (by decide) f13 | exact fun _ => rfl
      · first | exact flag_ne (by decide) f14 | exact fun _ => rfl
      · intro h; rw [getD_set_ne false (by decide)] at h; have := f15 h; obtain ⟨q, e1, e2⟩ := this; exact (by first | exact ⟨q, e1, e2⟩ | exact ⟨q, e1, owns_below e2 hb⟩ | (trace_state; fail))
      · first | exact flag_ne (by decide) f16 | exact fun _ => rfl
      · first | exact flag_ne (by decide) f17 | exact fun _ => rfl
      · intro h; rw [getD_set_ne false (by decide)] at h; have := f18 h; first | exact this | exact owns_below this hb | (trace_state; fail)
      · intro _; first | rfl | (trace_state; fail)
  intro L b v hA h
  refine h.elim ?_; clear h; intro u2 h
  refine h.elim ?_; clear h; intro u3 h
  refine h.elim ?_; clear h; intro u17 h
  refine h.elim ?_; clear h; intro u18 h
  refine h.elim ?_; clear h; intro u19 h
  refine h.elim ?_; clear h; intro u20 h
  refine h.elim ?_; clear h; intro u21 h
  refine h.elim ?_; clear h; intro u22 h
  refine h.elim ?_; clear h; intro u23 h
  refine h.elim ?_; clear h; intro u24 h
  refine h.elim ?_; clear h; intro u25 h
  refine h.elim ?_; clear h; intro u26 h
  refine h.elim ?_; clear h; intro u27 h
  refine h.elim ?_; clear h; intro u28 h
  refine h.elim ?_; clear h; intro u29 h
  refine h.elim ?_; clear h; intro u30 h
  refine h.elim ?_; clear h; intro u31 h
  refine h.elim ?_; clear h; intro u32 h
  refine h.elim ?_; clear h; intro u33 h
  refine h.elim ?_; clear h; intro u34 h
  have hbb := h.1; replace h := h.2; subst hbb
  have hHeld := h.1; replace h := h.2
  have f0 := h.1; replace h := h.2
  have f1 := h.1; replace h := h.2
  have f2 := h.1; replace h := h.2
  have f3 := h.1; replace h := h.2
  have f4 := h.1; replace h := h.2
  have f5 := h.1; replace h := h.2
  have f6 := h.1; replace h := h.2
  have f7 := h.1; replace h := h.2
  have f8 := h.1; replace h := h.2
  have f9 := h.1; replace h := h.2
  have f10 := h.1; replace h := h.2
  have f11 := h.1; replace h := h.2
  have f12 := h.1; replace h := h.2
  have f13 := h.1; replace h := h.2
  have f14 := h.1; replace h := h.2
  have f15 := h.1; replace h := h.2
  have f16 := h.1; replace h := h.2
  have f17 := h.1; replace h := h.2
  have f18 := h.1; replace h := h.2
  have f19 := h; clear h
  have g0 := f0 (hA 0 (by omega))
  clear f0
  obtain rfl := g0
  have g1 := f1 (hA 1 (by omega))
  clear f1
  obtain rfl := g1
  have g2 := f2 (hA 2 (by omega))
  clear f2
  obtain rfl := g2
  have g3 := f3 (hA 3 (by omega))
  clear f3
  have g4 := f4 (hA 4 (by omega))
  clear f4
  obtain rfl := g4
  have g5 := f5 (hA 5 (by omega))
  clear f5
  obtain rfl := g5
  have g6 := f6 (hA 6 (by omega))
  clear f6
  obtain rfl := g6
  have g7 := f7 (hA 7 (by omega))
  clear f7
  obtain rfl := g7
  have g8 := f8 (hA 8 (by omega))
  clear f8
  obtain rfl := g8
  have g9 := f9 (hA 9 (by omega))
  clear f9
  obtain rfl := g9
  have g10 := f10 (hA 10 (by omega))
  clear f10
  obtain rfl := g10
  have g11 := f11 (hA 11 (by omega))
  clear f11
  obtain rfl := g11
  have g12 := f12 (hA 12 (by omega))
  clear f12
  obtain rfl := g12
  have g13 := f13 (hA 13 (by omega))
  clear f13
  obtain rfl := g13
  have g14 := f14 (hA 14 (by omega))
  clear f14
  obtain rfl := g14
  have g15 := f15 (hA 15 (by omega))
  clear f15
  obtain ⟨q32, rfl, H32⟩ := g15
  have g16 := f16 (hA 16 (by omega))
  clear f16
  obtain rfl := g16
  have g17 := f17 (hA 17 (by omega))
  clear f17
  obtain rfl := g17
  have g18 := f18 (hA 18 (by omega))
  clear f18
  have g19 := f19 (hA 19 (by omega))
  clear f19
  obtain rfl := g19
  clear hA
  exact ⟨rfl, _, _, _, _, _, _, _, _, _, _, _, _, _, _, _, _, _, _, _, _, rfl, hHeld, g18, rfl⟩
end Go.Proofs.YtjikkipdmonndaaDoor
