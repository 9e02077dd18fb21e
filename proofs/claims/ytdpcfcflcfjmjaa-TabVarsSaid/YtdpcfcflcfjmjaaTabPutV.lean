/- Layer 14: a variable's row as bytes. -/
import Derived.Test.YtdpcfcflcfjmjaaRdVar
namespace Go.Proofs.Ytdpcfcflcfjmjaa
open Go.RowKit
set_option linter.unusedSimpArgs false
set_option linter.unusedVariables false
theorem owns_int3 (w : World) {B : Nat} (a b c : Int) (hB : B ≤ w.heap.size) : (w.alloc (.cells #[.int .i64 a, .int .i64 b, .int .i64 c] 3)).ownsRow B 3 1 (.slice (some ⟨w.heap.size, 0, none⟩) 3 3) 3 [.int .i64 a, .int .i64 b, .int .i64 c] :=
  ⟨rfl, Or.inr ⟨w.heap.size, 3, #[.int .i64 a, .int .i64 b, .int .i64 c], rfl, hB, by show (w.heap.push _)[w.heap.size]? = _; simp, by omega, by unfold maxLen; omega, by simp, by simp⟩⟩
set_option maxHeartbeats 4000000 in
theorem putVar_r1 (W0 : World) (g : Nat) (x : Vr) (i : TypeInfo) (hi : Try.prog.info? 5 = some i) (hz : i.zero = some (.int .u8 0)) (hsize : i.size = 1) (hby : i.bytes = 1) (w1 : I64 x.t) (w2 : I64 x.n) (w3 : I64 x.area) (C0 : W0.cell? ⟨g, 0, none⟩ = some (.string ⟨x.name.toArray⟩)) (C1 : W0.cell? ⟨g, 1, none⟩ = some (.int .i64 x.t)) (C2 : W0.cell? ⟨g, 2, none⟩ = some (.int .i64 x.n)) (C3 : W0.cell? ⟨g, 3, none⟩ = some (.int .i64 x.area)) (C4 : W0.cell? ⟨g, 4, none⟩ = some (.int .i64 x.init)) (hg : g < W0.heap.size) (M : Nat) (T : List UInt8) (hM : M ≤ 1000) (HTX : Hid (∀ W, Calls Try.prog 37 #[.slice none 0 0, .string ⟨x.name.toArray⟩] W fun e w' => ∃ r, e = .returned r ∧ w'.ownsRow W.heap.size 5 1 r M (bytesV T) ∧ Below W.heap.size W w')) (t0 t2 t3 t4 t5 t6 t7 t8 t9 t10 t11 t12 t13 t14 t15 t16 t17 t18 t19 t20 t21 t22 t23 t24 t25 t26 t27 t28 t29 t30 t31 t32 t33 t34 : Value) :
    (Code.region 1 #[{ dst := some 5, op := Op.fieldAddr 34 (Operand.tmp 1) 0, type := 0, pos := "tab.go:91", after := #[], guard := none }, { dst := some 6, op := Op.load 9 (Operand.tmp 5), type := 9, pos := "tab.go:91", after := #[{ on := 0, ground := Ground.data }], guard := none }, { dst := some 7, op := Op.call { callee := Callee.value (Operand.func 37), args := #[Operand.const (Value.slice none 0 0), Operand.tmp 6], argTypes := #[23, 9] }, type := 23, pos := "tab.go:91", after := #[{ on := 1, ground := Ground.data }], guard := none }, { dst := some 8, op := Op.fieldAddr 34 (Operand.tmp 1) 1, type := 0, pos := "tab.go:91", after := #[], guard := none }, { dst := some 9, op := Op.load 3 (Operand.tmp 8), type := 3, pos := "tab.go:91", after := #[{ on := 3, ground := Ground.data }], guard := none }, { dst := some 10, op := Op.fieldAddr 34 (Operand.tmp 1) 2, type := 0, pos := "tab.go:91", after := #[], guard := none }, { dst := some 11, op := Op.load 3 (Operand.tmp 10), type := 3, pos := "tab.go:91", after := #[{ on := 5, ground := Ground.data }], guard := none }, { dst := some 12, op := Op.fieldAddr 34 (Operand.tmp 1) 3, type := 0, pos := "tab.go:91", after := #[], guard := none }, { dst := some 13, op := Op.load 3 (Operand.tmp 12), type := 3, pos := "tab.go:91", after := #[{ on := 7, ground := Ground.data }], guard := none }, { dst := some 14, op := Op.buildSlice 75 3 #[(0, Operand.tmp 9), (1, Operand.tmp 11), (2, Operand.tmp 13)], type := 75, pos := "tab.go:91", after := #[{ on := 4, ground := Ground.data }, { on := 6, ground := Ground.data }, { on := 8, ground := Ground.data }], guard := none }, { dst := some 15, op := Op.call { callee := Callee.value (Operand.func 25), args := #[Operand.tmp 14], argTypes := #[75] }, type := 23, pos := "tab.go:91", after := #[{ on := 9, ground := Ground.data }, { on := 2, ground := Ground.chain }], guard := none }, { dst := some 16, op := Op.call { callee := Callee.builtin Builtin.append, args := #[Operand.tmp 7, Operand.tmp 15], argTypes := #[23, 23] }, type := 23, pos := "tab.go:91", after := #[{ on := 2, ground := Ground.data }, { on := 10, ground := Ground.data }, { on := 10, ground := Ground.chain }], guard := none }, { dst := some 4, op := Op.assign (Operand.tmp 16), type := 23, pos := "tab.go:91", after := #[{ on := 11, ground := Ground.data }, { on := 11, ground := Ground.chain }, { on := 0, ground := Ground.phase }, { on := 1, ground := Ground.phase }, { on := 2, ground := Ground.phase }, { on := 3, ground := Ground.phase }, { on := 4, ground := Ground.phase }, { on := 5, ground := Ground.phase }, { on := 6, ground := Ground.phase }, { on := 7, ground := Ground.phase }, { on := 8, ground := Ground.phase }, { on := 9, ground := Ground.phase }, { on := 10, ground := Ground.phase }, { on := 11, ground := Ground.phase }], guard := none }] true).wp Try.prog (fun e b v => e = Exit.normal ∧ ∃ u4 u5 u6 u7 u8 u9 u10 u11 u12 u13 u14 u15 u16 : Value, b = ⟨#[t0, .pointer (some ⟨g, 0, none⟩), t2, t3, u4, u5, u6, u7, u8, u9, u10, u11, u12, u13, u14, u15, u16, t17, t18, t19, t20, t21, t22, t23, t24, t25, t26, t27, t28, t29, t30, t31, t32, t33, t34], []⟩ ∧ Below W0.heap.size W0 v ∧ (v.ownsRow W0.heap.size 5 1 u4 (M + 3) (bytesV T ++ bytesV [byteO x.t, byteO x.n, byteO x.area]))) ⟨#[t0, .pointer (some ⟨g, 0, none⟩), t2, t3, t4, t5, t6, t7, t8, t9, t10, t11, t12, t13, t14, t15, t16, t17, t18, t19, t20, t21, t22, t23, t24, t25, t26, t27, t28, t29, t30, t31, t32, t33, t34], []⟩ W0 := by
  refine wp_region_facts (n := 13) (fun L b v => ∃ u4 u5 u6 u7 u8 u9 u10 u11 u12 u13 u14 u15 u16 : Value, b = ⟨#[t0, .pointer (some ⟨g, 0, none⟩), t2, t3, u4, u5, u6, u7, u8, u9, u10, u11, u12, u13, u14, u15, u16, t17, t18, t19, t20, t21, t22, t23, t24, t25, t26, t27, t28, t29, t30, t31, t32, t33, t34], []⟩ ∧ Below W0.heap.size W0 v ∧ (L.getD 0 false = true → u5 = .pointer (some ⟨g, 0, none⟩)) ∧ (L.getD 1 false = true → u6 = .string ⟨x.name.toArray⟩) ∧ (L.getD 2 false = true → L.getD 11 true = false → v.ownsRow W0.heap.size 5 1 u7 M (bytesV T)) ∧ (L.getD 3 false = true → u8 = .pointer (some ⟨g, 1, none⟩)) ∧ (L.getD 4 false = true → u9 = .int .i64 x.t) ∧ (L.getD 5 false = true → u10 = .pointer (some ⟨g, 2, none⟩)) ∧ (L.getD 6 false = true → u11 = .int .i64 x.n) ∧ (L.getD 7 false = true → u12 = .pointer (some ⟨g, 3, none⟩)) ∧ (L.getD 8 false = true → u13 = .int .i64 x.area) ∧ (L.getD 9 false = true → ∃ q, u14 = .slice (some ⟨q, 0, none⟩) 3 3 ∧ v.ownsRow W0.heap.size 3 1 (.slice (some ⟨q, 0, none⟩) 3 3) 3 [.int .i64 x.t, .int .i64 x.n, .int .i64 x.area]) ∧ (L.getD 10 false = true → L.getD 11 true = false → v.ownsRow W0.heap.size 5 1 u15 3 (bytesV [byteO x.t, byteO x.n, byteO x.area])) ∧ (L.getD 11 false = true → v.ownsRow W0.heap.size 5 1 u16 (M + 3) (bytesV T ++ bytesV [byteO x.t, byteO x.n, byteO x.area])) ∧ (L.getD 12 false = true → v.ownsRow W0.heap.size 5 1 u4 (M + 3) (bytesV T ++ bytesV [byteO x.t, byteO x.n, byteO x.area]))) (by kernel_rfl) (by kernel_rfl) (by kernel_rfl) ?_ ?_ ?_
  · refine ⟨_, _, _, _, _, _, _, _, _, _, _, _, _, rfl, (Below.refl _ _).drew, flag_new, flag_new, flag_new, flag_new, flag_new, flag_new, flag_new, flag_new, flag_new, flag_new, flag_new, flag_new, flag_new⟩
  · refine AllSteps.succ (AllSteps.succ (AllSteps.succ (AllSteps.succ (AllSteps.succ (AllSteps.succ (AllSteps.succ (AllSteps.succ (AllSteps.succ (AllSteps.succ (AllSteps.succ (AllSteps.succ (AllSteps.succ AllSteps.zero ?_) ?_) ?_) ?_) ?_) ?_) ?_) ?_) ?_) ?_) ?_) ?_) ?_
    · refine StepAt.mk (o := { dst := some 5, op := Op.fieldAddr 34 (Operand.tmp 1) 0, type := 0, pos := _, after := #[], guard := none }) (ws := []) rfl (by kernel_rfl) ?_
      rintro L b v hC h0 hA ⟨u4, u5, u6, u7, u8, u9, u10, u11, u12, u13, u14, u15, u16, rfl, hHeld, f0, f1, f2, f3, f4, f5, f6, f7, f8, f9, f10, f11, f12⟩ K hK
      rw [if_pos (by kernel_rfl)]
      have q0 := cellB hHeld C0 hg
      have q1 := cellB hHeld C1 hg
      have q2 := cellB hHeld C2 hg
      have q3 := cellB hHeld C3 hg
      have q4 := cellB hHeld C4 hg
      go_simp
      try simp only [Act.put, List.setIfInBounds_toArray, List.set_cons_zero, List.set_cons_succ]
      refine hK.out _ _ ⟨_, _, _, _, _, _, _, _, _, _, _, _, _, rfl, ?_, ?_, ?_, ?_, ?_, ?_, ?_, ?_, ?_, ?_, ?_, ?_, ?_, ?_⟩
      · first | exact hHeld | exact hHeld.trans (hb.mono hHeld.size) | (trace_state; fail)
      · intro _; first | rfl | (trace_state; fail)
      · first | exact flag_ne (by decide) f1 | exact fun _ => rfl
      · intro h _; rw [getD_set_ne false (by decide)] at h; exact (getD_no h0 (hC.step (j := 1) (k := 0) (hC.step (j := 2) (k := 1) h (by kernel_rfl)) (by kernel_rfl))).elim
      · first | exact flag_ne (by decide) f3 | exact fun _ => rfl
      · first | exact flag_ne (by decide) f4 | exact fun _ => rfl
      · first | exact flag_ne (by decide) f5 | exact fun _ => rfl
      · first | exact flag_ne (by decide) f6 | exact fun _ => rfl
      · first | exact flag_ne (by decide) f7 | exact fun _ => rfl
      · first | exact flag_ne (by decide) f8 | exact fun _ => rfl
      · intro h; rw [getD_set_ne false (by decide)] at h; have := f9 h; obtain ⟨q, e1, e2⟩ := this; exact (by first | exact ⟨q, e1, e2⟩ | exact ⟨q, e1, owns_below e2 hb⟩ | exact ⟨q, e1, owns_grown e2 hG (fun g hg => owns_type e2 g2 (by decide) hg)⟩ | (trace_state; fail))
      · intro h _; rw [getD_set_ne false (by decide)] at h; exact (getD_no h0 (hC.step (j := 1) (k := 0) (hC.step (j := 2) (k := 1) (hC.step (j := 10) (k := 2) h (by kernel_rfl)) (by kernel_rfl)) (by kernel_rfl))).elim
      · intro h; rw [getD_set_ne false (by decide)] at h; exact (getD_no h0 (hC.step (j := 1) (k := 0) (hC.step (j := 2) (k := 1) (hC.step (j := 11) (k := 2) h (by kernel_rfl)) (by kernel_rfl)) (by kernel_rfl))).elim
      · intro h; rw [getD_set_ne false (by decide)] at h; exact (getD_no h0 (hC.step (j := 12) (k := 0) h (by kernel_rfl))).elim
    · refine StepAt.mk (o := { dst := some 6, op := Op.load 9 (Operand.tmp 5), type := 9, pos := _, after := #[{ on := 0, ground := Ground.data }], guard := none }) (ws := [0]) rfl (by kernel_rfl) ?_
      rintro L b v hC h0 hA ⟨u4, u5, u6, u7, u8, u9, u10, u11, u12, u13, u14, u15, u16, rfl, hHeld, f0, f1, f2, f3, f4, f5, f6, f7, f8, f9, f10, f11, f12⟩ K hK
      have g0 := f0 (hA 0 (by simp))
      obtain rfl := g0
      rw [if_pos (by kernel_rfl)]
      have q0 := cellB hHeld C0 hg
      have q1 := cellB hHeld C1 hg
      have q2 := cellB hHeld C2 hg
      have q3 := cellB hHeld C3 hg
      have q4 := cellB hHeld C4 hg
      go_simp
      try simp only [Act.put, List.setIfInBounds_toArray, List.set_cons_zero, List.set_cons_succ]
      refine hK.out _ _ ⟨_, _, _, _, _, _, _, _, _, _, _, _, _, rfl, ?_, ?_, ?_, ?_, ?_, ?_, ?_, ?_, ?_, ?_, ?_, ?_, ?_, ?_⟩
      · first | exact hHeld | exact hHeld.trans (hb.mono hHeld.size) | (trace_state; fail)
      · first | exact flag_ne (by decide) f0 | exact fun _ => rfl
      · intro _; first | rfl | (trace_state; fail)
      · intro h _; rw [getD_set_ne false (by decide)] at h; exact (getD_no h0 (hC.step (j := 2) (k := 1) h (by kernel_rfl))).elim
      · first | exact flag_ne (by decide) f3 | exact fun _ => rfl
      · first | exact flag_ne (by decide) f4 | exact fun _ => rfl
      · first | exact flag_ne (by decide) f5 | exact fun _ => rfl
      · first | exact flag_ne (by decide) f6 | exact fun _ => rfl
      · first | exact flag_ne (by decide) f7 | exact fun _ => rfl
      · first | exact flag_ne (by decide) f8 | exact fun _ => rfl
      · intro h; rw [getD_set_ne false (by decide)] at h; have := f9 h; obtain ⟨q, e1, e2⟩ := this; exact (by first | exact ⟨q, e1, e2⟩ | exact ⟨q, e1, owns_below e2 hb⟩ | exact ⟨q, e1, owns_grown e2 hG (fun g hg => owns_type e2 g2 (by decide) hg)⟩ | (trace_state; fail))
      · intro h _; rw [getD_set_ne false (by decide)] at h; exact (getD_no h0 (hC.step (j := 2) (k := 1) (hC.step (j := 10) (k := 2) h (by kernel_rfl)) (by kernel_rfl))).elim
      · intro h; rw [getD_set_ne false (by decide)] at h; exact (getD_no h0 (hC.step (j := 2) (k := 1) (hC.step (j := 11) (k := 2) h (by kernel_rfl)) (by kernel_rfl))).elim
      · intro h; rw [getD_set_ne false (by decide)] at h; exact (getD_no h0 (hC.step (j := 12) (k := 1) h (by kernel_rfl))).elim
    · refine StepAt.mk (o := { dst := some 7, op := Op.call { callee := Callee.value (Operand.func 37), args := #[Operand.const (Value.slice none 0 0), Operand.tmp 6], argTypes := #[23, 9] }, type := 23, pos := _, after := #[{ on := 1, ground := Ground.data }], guard := none }) (ws := [1]) rfl (by kernel_rfl) ?_
      rintro L b v hC h0 hA ⟨u4, u5, u6, u7, u8, u9, u10, u11, u12, u13, u14, u15, u16, rfl, hHeld, f0, f1, f2, f3, f4, f5, f6, f7, f8, f9, f10, f11, f12⟩ K hK
      have g1 := f1 (hA 1 (by simp))
      obtain rfl := g1
      rw [if_pos (by kernel_rfl)]
      have q0 := cellB hHeld C0 hg
      have q1 := cellB hHeld C1 hg
      have q2 := cellB hHeld C2 hg
      have q3 := cellB hHeld C3 hg
      have q4 := cellB hHeld C4 hg
      go_simp
      refine (HTX.out v).mono ?_; rintro e v1 ⟨r, rfl, HO, hb⟩
      go_wp2_with fail
      try simp only [Act.put, List.setIfInBounds_toArray, List.set_cons_zero, List.set_cons_succ]
      refine hK.out _ _ ⟨_, _, _, _, _, _, _, _, _, _, _, _, _, rfl, ?_, ?_, ?_, ?_, ?_, ?_, ?_, ?_, ?_, ?_, ?_, ?_, ?_, ?_⟩
      · first | exact hHeld | exact hHeld.trans (hb.mono hHeld.size) | (trace_state; fail)
      · first | exact flag_ne (by decide) f0 | exact fun _ => rfl
      · first | exact flag_ne (by decide) f1 | exact fun _ => rfl
      · intro _ _; first | (exact own_low HO hHeld.size) | (trace_state; fail)
      · first | exact flag_ne (by decide) f3 | exact fun _ => rfl
      · first | exact flag_ne (by decide) f4 | exact fun _ => rfl
      · first | exact flag_ne (by decide) f5 | exact fun _ => rfl
      · first | exact flag_ne (by decide) f6 | exact fun _ => rfl
      · first | exact flag_ne (by decide) f7 | exact fun _ => rfl
      · first | exact flag_ne (by decide) f8 | exact fun _ => rfl
      · intro h; rw [getD_set_ne false (by decide)] at h; have := f9 h; obtain ⟨q, e1, e2⟩ := this; exact (by first | exact ⟨q, e1, e2⟩ | exact ⟨q, e1, owns_below e2 hb⟩ | exact ⟨q, e1, owns_grown e2 hG (fun g hg => owns_type e2 g2 (by decide) hg)⟩ | (trace_state; fail))
      · intro h _; rw [getD_set_ne false (by decide)] at h; exact (getD_no h0 (hC.step (j := 10) (k := 2) h (by kernel_rfl))).elim
      · intro h; rw [getD_set_ne false (by decide)] at h; exact (getD_no h0 (hC.step (j := 11) (k := 2) h (by kernel_rfl))).elim
      · intro h; rw [getD_set_ne false (by decide)] at h; exact (getD_no h0 (hC.step (j := 12) (k := 2) h (by kernel_rfl))).elim
    · refine StepAt.mk (o := { dst := some 8, op := Op.fieldAddr 34 (Operand.tmp 1) 1, type := 0, pos := _, after := #[], guard := none }) (ws := []) rfl (by kernel_rfl) ?_
      rintro L b v hC h0 hA ⟨u4, u5, u6, u7, u8, u9, u10, u11, u12, u13, u14, u15, u16, rfl, hHeld, f0, f1, f2, f3, f4, f5, f6, f7, f8, f9, f10, f11, f12⟩ K hK
      rw [if_pos (by kernel_rfl)]
      have q0 := cellB hHeld C0 hg
      have q1 := cellB hHeld C1 hg
      have q2 := cellB hHeld C2 hg
      have q3 := cellB hHeld C3 hg
      have q4 := cellB hHeld C4 hg
      go_simp
      try simp only [Act.put, List.setIfInBounds_toArray, List.set_cons_zero, List.set_cons_succ]
      refine hK.out _ _ ⟨_, _, _, _, _, _, _, _, _, _, _, _, _, rfl, ?_, ?_, ?_, ?_, ?_, ?_, ?_, ?_, ?_, ?_, ?_, ?_, ?_, ?_⟩
      · first | exact hHeld | exact hHeld.trans (hb.mono hHeld.size) | (trace_state; fail)
      · first | exact flag_ne (by decide) f0 | exact fun _ => rfl
      · first | exact flag_ne (by decide) f1 | exact fun _ => rfl
      · intro h h7; rw [getD_set_ne false (by decide)] at h; rw [getD_set_ne true (by decide)] at h7; have := f2 h h7; first | exact this | exact owns_below this hb | (trace_state; fail)
      · intro _; first | rfl | (trace_state; fail)
      · first | exact flag_ne (by decide) f4 | exact fun _ => rfl
      · first | exact flag_ne (by decide) f5 | exact fun _ => rfl
      · first | exact flag_ne (by decide) f6 | exact fun _ => rfl
      · first | exact flag_ne (by decide) f7 | exact fun _ => rfl
      · first | exact flag_ne (by decide) f8 | exact fun _ => rfl
      · intro h; rw [getD_set_ne false (by decide)] at h; exact (getD_no h0 (hC.step (j := 4) (k := 3) (hC.step (j := 9) (k := 4) h (by kernel_rfl)) (by kernel_rfl))).elim
      · intro h _; rw [getD_set_ne false (by decide)] at h; exact (getD_no h0 (hC.step (j := 4) (k := 3) (hC.step (j := 9) (k := 4) (hC.step (j := 10) (k := 9) h (by kernel_rfl)) (by kernel_rfl)) (by kernel_rfl))).elim
      · intro h; rw [getD_set_ne false (by decide)] at h; exact (getD_no h0 (hC.step (j := 4) (k := 3) (hC.step (j := 9) (k := 4) (hC.step (j := 10) (k := 9) (hC.step (j := 11) (k := 10) h (by kernel_rfl)) (by kernel_rfl)) (by kernel_rfl)) (by kernel_rfl))).elim
      · intro h; rw [getD_set_ne false (by decide)] at h; exact (getD_no h0 (hC.step (j := 12) (k := 3) h (by kernel_rfl))).elim
    · refine StepAt.mk (o := { dst := some 9, op := Op.load 3 (Operand.tmp 8), type := 3, pos := _, after := #[{ on := 3, ground := Ground.data }], guard := none }) (ws := [3]) rfl (by kernel_rfl) ?_
      rintro L b v hC h0 hA ⟨u4, u5, u6, u7, u8, u9, u10, u11, u12, u13, u14, u15, u16, rfl, hHeld, f0, f1, f2, f3, f4, f5, f6, f7, f8, f9, f10, f11, f12⟩ K hK
      have g3 := f3 (hA 3 (by simp))
      obtain rfl := g3
      rw [if_pos (by kernel_rfl)]
      have q0 := cellB hHeld C0 hg
      have q1 := cellB hHeld C1 hg
      have q2 := cellB hHeld C2 hg
      have q3 := cellB hHeld C3 hg
      have q4 := cellB hHeld C4 hg
      go_simp
      try simp only [Act.put, List.setIfInBounds_toArray, List.set_cons_zero, List.set_cons_succ]
      refine hK.out _ _ ⟨_, _, _, _, _, _, _, _, _, _, _, _, _, rfl, ?_, ?_, ?_, ?_, ?_, ?_, ?_, ?_, ?_, ?_, ?_, ?_, ?_, ?_⟩
      · first | exact hHeld | exact hHeld.trans (hb.mono hHeld.size) | (trace_state; fail)
      · first | exact flag_ne (by decide) f0 | exact fun _ => rfl
      · first | exact flag_ne (by decide) f1 | exact fun _ => rfl
      · intro h h7; rw [getD_set_ne false (by decide)] at h; rw [getD_set_ne true (by decide)] at h7; have := f2 h h7; first | exact this | exact owns_below this hb | (trace_state; fail)
      · first | exact flag_ne (by decide) f3 | exact fun _ => rfl
      · intro _; first | rfl | (trace_state; fail)
      · first | exact flag_ne (by decide) f5 | exact fun _ => rfl
      · first | exact flag_ne (by decide) f6 | exact fun _ => rfl
      · first | exact flag_ne (by decide) f7 | exact fun _ => rfl
      · first | exact flag_ne (by decide) f8 | exact fun _ => rfl
      · intro h; rw [getD_set_ne false (by decide)] at h; exact (getD_no h0 (hC.step (j := 9) (k := 4) h (by kernel_rfl))).elim
      · intro h _; rw [getD_set_ne false (by decide)] at h; exact (getD_no h0 (hC.step (j := 9) (k := 4) (hC.step (j := 10) (k := 9) h (by kernel_rfl)) (by kernel_rfl))).elim
      · intro h; rw [getD_set_ne false (by decide)] at h; exact (getD_no h0 (hC.step (j := 9) (k := 4) (hC.step (j := 10) (k := 9) (hC.step (j := 11) (k := 10) h (by kernel_rfl)) (by kernel_rfl)) (by kernel_rfl))).elim
      · intro h; rw [getD_set_ne false (by decide)] at h; exact (getD_no h0 (hC.step (j := 12) (k := 4) h (by kernel_rfl))).elim
    · refine StepAt.mk (o := { dst := some 10, op := Op.fieldAddr 34 (Operand.tmp 1) 2, type := 0, pos := _, after := #[], guard := none }) (ws := []) rfl (by kernel_rfl) ?_
      rintro L b v hC h0 hA ⟨u4, u5, u6, u7, u8, u9, u10, u11, u12, u13, u14, u15, u16, rfl, hHeld, f0, f1, f2, f3, f4, f5, f6, f7, f8, f9, f10, f11, f12⟩ K hK
      rw [if_pos (by kernel_rfl)]
      have q0 := cellB hHeld C0 hg
      have q1 := cellB hHeld C1 hg
      have q2 := cellB hHeld C2 hg
      have q3 := cellB hHeld C3 hg
      have q4 := cellB hHeld C4 hg
      go_simp
      try simp only [Act.put, List.setIfInBounds_toArray, List.set_cons_zero, List.set_cons_succ]
      refine hK.out _ _ ⟨_, _, _, _, _, _, _, _, _, _, _, _, _, rfl, ?_, ?_, ?_, ?_, ?_, ?_, ?_, ?_, ?_, ?_, ?_, ?_, ?_, ?_⟩
      · first | exact hHeld | exact hHeld.trans (hb.mono hHeld.size) | (trace_state; fail)
      · first | exact flag_ne (by decide) f0 | exact fun _ => rfl
      · first | exact flag_ne (by decide) f1 | exact fun _ => rfl
      · intro h h7; rw [getD_set_ne false (by decide)] at h; rw [getD_set_ne true (by decide)] at h7; have := f2 h h7; first | exact this | exact owns_below this hb | (trace_state; fail)
      · first | exact flag_ne (by decide) f3 | exact fun _ => rfl
      · first | exact flag_ne (by decide) f4 | exact fun _ => rfl
      · intro _; first | rfl | (trace_state; fail)
      · first | exact flag_ne (by decide) f6 | exact fun _ => rfl
      · first | exact flag_ne (by decide) f7 | exact fun _ => rfl
      · first | exact flag_ne (by decide) f8 | exact fun _ => rfl
      · intro h; rw [getD_set_ne false (by decide)] at h; exact (getD_no h0 (hC.step (j := 6) (k := 5) (hC.step (j := 9) (k := 6) h (by kernel_rfl)) (by kernel_rfl))).elim
      · intro h _; rw [getD_set_ne false (by decide)] at h; exact (getD_no h0 (hC.step (j := 6) (k := 5) (hC.step (j := 9) (k := 6) (hC.step (j := 10) (k := 9) h (by kernel_rfl)) (by kernel_rfl)) (by kernel_rfl))).elim
      · intro h; rw [getD_set_ne false (by decide)] at h; exact (getD_no h0 (hC.step (j := 6) (k := 5) (hC.step (j := 9) (k := 6) (hC.step (j := 10) (k := 9) (hC.step (j := 11) (k := 10) h (by kernel_rfl)) (by kernel_rfl)) (by kernel_rfl)) (by kernel_rfl))).elim
      · intro h; rw [getD_set_ne false (by decide)] at h; exact (getD_no h0 (hC.step (j := 12) (k := 5) h (by kernel_rfl))).elim
    · refine StepAt.mk (o := { dst := some 11, op := Op.load 3 (Operand.tmp 10), type := 3, pos := _, after := #[{ on := 5, ground := Ground.data }], guard := none }) (ws := [5]) rfl (by kernel_rfl) ?_
      rintro L b v hC h0 hA ⟨u4, u5, u6, u7, u8, u9, u10, u11, u12, u13, u14, u15, u16, rfl, hHeld, f0, f1, f2, f3, f4, f5, f6, f7, f8, f9, f10, f11, f12⟩ K hK
      have g5 := f5 (hA 5 (by simp))
      obtain rfl := g5
      rw [if_pos (by kernel_rfl)]
      have q0 := cellB hHeld C0 hg
      have q1 := cellB hHeld C1 hg
      have q2 := cellB hHeld C2 hg
      have q3 := cellB hHeld C3 hg
      have q4 := cellB hHeld C4 hg
      go_simp
      try simp only [Act.put, List.setIfInBounds_toArray, List.set_cons_zero, List.set_cons_succ]
      refine hK.out _ _ ⟨_, _, _, _, _, _, _, _, _, _, _, _, _, rfl, ?_, ?_, ?_, ?_, ?_, ?_, ?_, ?_, ?_, ?_, ?_, ?_, ?_, ?_⟩
      · first | exact hHeld | exact hHeld.trans (hb.mono hHeld.size) | (trace_state; fail)
      · first | exact flag_ne (by decide) f0 | exact fun _ => rfl
      · first | exact flag_ne (by decide) f1 | exact fun _ => rfl
      · intro h h7; rw [getD_set_ne false (by decide)] at h; rw [getD_set_ne true (by decide)] at h7; have := f2 h h7; first | exact this | exact owns_below this hb | (trace_state; fail)
      · first | exact flag_ne (by decide) f3 | exact fun _ => rfl
      · first | exact flag_ne (by decide) f4 | exact fun _ => rfl
      · first | exact flag_ne (by decide) f5 | exact fun _ => rfl
      · intro _; first | rfl | (trace_state; fail)
      · first | exact flag_ne (by decide) f7 | exact fun _ => rfl
      · first | exact flag_ne (by decide) f8 | exact fun _ => rfl
      · intro h; rw [getD_set_ne false (by decide)] at h; exact (getD_no h0 (hC.step (j := 9) (k := 6) h (by kernel_rfl))).elim
      · intro h _; rw [getD_set_ne false (by decide)] at h; exact (getD_no h0 (hC.step (j := 9) (k := 6) (hC.step (j := 10) (k := 9) h (by kernel_rfl)) (by kernel_rfl))).elim
      · intro h; rw [getD_set_ne false (by decide)] at h; exact (getD_no h0 (hC.step (j := 9) (k := 6) (hC.step (j := 10) (k := 9) (hC.step (j := 11) (k := 10) h (by kernel_rfl)) (by kernel_rfl)) (by kernel_rfl))).elim
      · intro h; rw [getD_set_ne false (by decide)] at h; exact (getD_no h0 (hC.step (j := 12) (k := 6) h (by kernel_rfl))).elim
    · refine StepAt.mk (o := { dst := some 12, op := Op.fieldAddr 34 (Operand.tmp 1) 3, type := 0, pos := _, after := #[], guard := none }) (ws := []) rfl (by kernel_rfl) ?_
      rintro L b v hC h0 hA ⟨u4, u5, u6, u7, u8, u9, u10, u11, u12, u13, u14, u15, u16, rfl, hHeld, f0, f1, f2, f3, f4, f5, f6, f7, f8, f9, f10, f11, f12⟩ K hK
      rw [if_pos (by kernel_rfl)]
      have q0 := cellB hHeld C0 hg
      have q1 := cellB hHeld C1 hg
      have q2 := cellB hHeld C2 hg
      have q3 := cellB hHeld C3 hg
      have q4 := cellB hHeld C4 hg
      go_simp
      try simp only [Act.put, List.setIfInBounds_toArray, List.set_cons_zero, List.set_cons_succ]
      refine hK.out _ _ ⟨_, _, _, _, _, _, _, _, _, _, _, _, _, rfl, ?_, ?_, ?_, ?_, ?_, ?_, ?_, ?_, ?_, ?_, ?_, ?_, ?_, ?_⟩
      · first | exact hHeld | exact hHeld.trans (hb.mono hHeld.size) | (trace_state; fail)
      · first | exact flag_ne (by decide) f0 | exact fun _ => rfl
      · first | exact flag_ne (by decide) f1 | exact fun _ => rfl
      · intro h h7; rw [getD_set_ne false (by decide)] at h; rw [getD_set_ne true (by decide)] at h7; have := f2 h h7; first | exact this | exact owns_below this hb | (trace_state; fail)
      · first | exact flag_ne (by decide) f3 | exact fun _ => rfl
      · first | exact flag_ne (by decide) f4 | exact fun _ => rfl
      · first | exact flag_ne (by decide) f5 | exact fun _ => rfl
      · first | exact flag_ne (by decide) f6 | exact fun _ => rfl
      · intro _; first | rfl | (trace_state; fail)
      · first | exact flag_ne (by decide) f8 | exact fun _ => rfl
      · intro h; rw [getD_set_ne false (by decide)] at h; exact (getD_no h0 (hC.step (j := 8) (k := 7) (hC.step (j := 9) (k := 8) h (by kernel_rfl)) (by kernel_rfl))).elim
      · intro h _; rw [getD_set_ne false (by decide)] at h; exact (getD_no h0 (hC.step (j := 8) (k := 7) (hC.step (j := 9) (k := 8) (hC.step (j := 10) (k := 9) h (by kernel_rfl)) (by kernel_rfl)) (by kernel_rfl))).elim
      · intro h; rw [getD_set_ne false (by decide)] at h; exact (getD_no h0 (hC.step (j := 8) (k := 7) (hC.step (j := 9) (k := 8) (hC.step (j := 10) (k := 9) (hC.step (j := 11) (k := 10) h (by kernel_rfl)) (by kernel_rfl)) (by kernel_rfl)) (by kernel_rfl))).elim
      · intro h; rw [getD_set_ne false (by decide)] at h; exact (getD_no h0 (hC.step (j := 12) (k := 7) h (by kernel_rfl))).elim
    · refine StepAt.mk (o := { dst := some 13, op := Op.load 3 (Operand.tmp 12), type := 3, pos := _, after := #[{ on := 7, ground := Ground.data }], guard := none }) (ws := [7]) rfl (by kernel_rfl) ?_
      rintro L b v hC h0 hA ⟨u4, u5, u6, u7, u8, u9, u10, u11, u12, u13, u14, u15, u16, rfl, hHeld, f0, f1, f2, f3, f4, f5, f6, f7, f8, f9, f10, f11, f12⟩ K hK
      have g7 := f7 (hA 7 (by simp))
      obtain rfl := g7
      rw [if_pos (by kernel_rfl)]
      have q0 := cellB hHeld C0 hg
      have q1 := cellB hHeld C1 hg
      have q2 := cellB hHeld C2 hg
      have q3 := cellB hHeld C3 hg
      have q4 := cellB hHeld C4 hg
      go_simp
      try simp only [Act.put, List.setIfInBounds_toArray, List.set_cons_zero, List.set_cons_succ]
      refine hK.out _ _ ⟨_, _, _, _, _, _, _, _, _, _, _, _, _, rfl, ?_, ?_, ?_, ?_, ?_, ?_, ?_, ?_, ?_, ?_, ?_, ?_, ?_, ?_⟩
      · first | exact hHeld | exact hHeld.trans (hb.mono hHeld.size) | (trace_state; fail)
      · first | exact flag_ne (by decide) f0 | exact fun _ => rfl
      · first | exact flag_ne (by decide) f1 | exact fun _ => rfl
      · intro h h7; rw [getD_set_ne false (by decide)] at h; rw [getD_set_ne true (by decide)] at h7; have := f2 h h7; first | exact this | exact owns_below this hb | (trace_state; fail)
      · first | exact flag_ne (by decide) f3 | exact fun _ => rfl
      · first | exact flag_ne (by decide) f4 | exact fun _ => rfl
      · first | exact flag_ne (by decide) f5 | exact fun _ => rfl
      · first | exact flag_ne (by decide) f6 | exact fun _ => rfl
      · first | exact flag_ne (by decide) f7 | exact fun _ => rfl
      · intro _; first | rfl | (trace_state; fail)
      · intro h; rw [getD_set_ne false (by decide)] at h; exact (getD_no h0 (hC.step (j := 9) (k := 8) h (by kernel_rfl))).elim
      · intro h _; rw [getD_set_ne false (by decide)] at h; exact (getD_no h0 (hC.step (j := 9) (k := 8) (hC.step (j := 10) (k := 9) h (by kernel_rfl)) (by kernel_rfl))).elim
      · intro h; rw [getD_set_ne false (by decide)] at h; exact (getD_no h0 (hC.step (j := 9) (k := 8) (hC.step (j := 10) (k := 9) (hC.step (j := 11) (k := 10) h (by kernel_rfl)) (by kernel_rfl)) (by kernel_rfl))).elim
      · intro h; rw [getD_set_ne false (by decide)] at h; exact (getD_no h0 (hC.step (j := 12) (k := 8) h (by kernel_rfl))).elim
    · refine StepAt.mk (o := { dst := some 14, op := Op.buildSlice 75 3 #[(0, Operand.tmp 9), (1, Operand.tmp 11), (2, Operand.tmp 13)], type := 75, pos := _, after := #[{ on := 4, ground := Ground.data }, { on := 6, ground := Ground.data }, { on := 8, ground := Ground.data }], guard := none }) (ws := [4, 6, 8]) rfl (by kernel_rfl) ?_
      rintro L b v hC h0 hA ⟨u4, u5, u6, u7, u8, u9, u10, u11, u12, u13, u14, u15, u16, rfl, hHeld, f0, f1, f2, f3, f4, f5, f6, f7, f8, f9, f10, f11, f12⟩ K hK
      have g4 := f4 (hA 4 (by simp))
      obtain rfl := g4
      have g6 := f6 (hA 6 (by simp))
      obtain rfl := g6
      have g8 := f8 (hA 8 (by simp))
      obtain rfl := g8
      rw [if_pos (by kernel_rfl)]
      have q0 := cellB hHeld C0 hg
      have q1 := cellB hHeld C1 hg
      have q2 := cellB hHeld C2 hg
      have q3 := cellB hHeld C3 hg
      have q4 := cellB hHeld C4 hg
      go_simp
      try simp only [Act.put, List.setIfInBounds_toArray, List.set_cons_zero, List.set_cons_succ]
      have hb : Below v.heap.size v (v.alloc (.cells #[.int .i64 x.t, .int .i64 x.n, .int .i64 x.area] 3)) := (Below.refl _ _).alloc (Nat.le_refl _) _
      refine hK.out _ _ ⟨_, _, _, _, _, _, _, _, _, _, _, _, _, rfl, ?_, ?_, ?_, ?_, ?_, ?_, ?_, ?_, ?_, ?_, ?_, ?_, ?_, ?_⟩
      · first | exact hHeld | exact hHeld.trans (hb.mono hHeld.size) | (trace_state; fail)
      · first | exact flag_ne (by decide) f0 | exact fun _ => rfl
      · first | exact flag_ne (by decide) f1 | exact fun _ => rfl
      · intro h h7; rw [getD_set_ne false (by decide)] at h; rw [getD_set_ne true (by decide)] at h7; have := f2 h h7; first | exact this | exact owns_below this hb | (trace_state; fail)
      · first | exact flag_ne (by decide) f3 | exact fun _ => rfl
      · first | exact flag_ne (by decide) f4 | exact fun _ => rfl
      · first | exact flag_ne (by decide) f5 | exact fun _ => rfl
      · first | exact flag_ne (by decide) f6 | exact fun _ => rfl
      · first | exact flag_ne (by decide) f7 | exact fun _ => rfl
      · first | exact flag_ne (by decide) f8 | exact fun _ => rfl
      · intro _; first | exact ⟨_, rfl, owns_int3 _ _ _ _ hHeld.size⟩ | (trace_state; fail)
      · intro h _; rw [getD_set_ne false (by decide)] at h; exact (getD_no h0 (hC.step (j := 10) (k := 9) h (by kernel_rfl))).elim
      · intro h; rw [getD_set_ne false (by decide)] at h; exact (getD_no h0 (hC.step (j := 10) (k := 9) (hC.step (j := 11) (k := 10) h (by kernel_rfl)) (by kernel_rfl))).elim
      · intro h; rw [getD_set_ne false (by decide)] at h; exact (getD_no h0 (hC.step (j := 12) (k := 9) h (by kernel_rfl))).elim
    · refine StepAt.mk (o := { dst := some 15, op := Op.call { callee := Callee.value (Operand.func 25), args := #[Operand.tmp 14], argTypes := #[75] }, type := 23, pos := _, after := #[{ on := 9, ground := Ground.data }, { on := 2, ground := Ground.chain }], guard := none }) (ws := [9, 2]) rfl (by kernel_rfl) ?_
      rintro L b v hC h0 hA ⟨u4, u5, u6, u7, u8, u9, u10, u11, u12, u13, u14, u15, u16, rfl, hHeld, f0, f1, f2, f3, f4, f5, f6, f7, f8, f9, f10, f11, f12⟩ K hK
      have g9 := f9 (hA 9 (by simp))
      obtain ⟨q14, rfl, H14⟩ := g9
      have g2 := f2 (hA 2 (by simp))
      rw [if_pos (by kernel_rfl)]
      have q0 := cellB hHeld C0 hg
      have q1 := cellB hHeld C1 hg
      have q2 := cellB hHeld C2 hg
      have q3 := cellB hHeld C3 hg
      have q4 := cellB hHeld C4 hg
      go_simp
      refine (tab_bytesOf _ [x.t, x.n, x.area] v (row_of_owns H14 (fun z hz => by simp at hz; rcases hz with rfl | rfl | rfl <;> assumption)) (by simp)).mono ?_; rintro e v1 ⟨r, rfl, HO, hb⟩
      go_wp2_with fail
      try simp only [Act.put, List.setIfInBounds_toArray, List.set_cons_zero, List.set_cons_succ]
      refine hK.out _ _ ⟨_, _, _, _, _, _, _, _, _, _, _, _, _, rfl, ?_, ?_, ?_, ?_, ?_, ?_, ?_, ?_, ?_, ?_, ?_, ?_, ?_, ?_⟩
      · first | exact hHeld | exact hHeld.trans (hb.mono hHeld.size) | (trace_state; fail)
      · first | exact flag_ne (by decide) f0 | exact fun _ => rfl
      · first | exact flag_ne (by decide) f1 | exact fun _ => rfl
      · intro h h7; rw [getD_set_ne false (by decide)] at h; rw [getD_set_ne true (by decide)] at h7; have := f2 h h7; first | exact this | exact owns_below this hb | (trace_state; fail)
      · first | exact flag_ne (by decide) f3 | exact fun _ => rfl
      · first | exact flag_ne (by decide) f4 | exact fun _ => rfl
      · first | exact flag_ne (by decide) f5 | exact fun _ => rfl
      · first | exact flag_ne (by decide) f6 | exact fun _ => rfl
      · first | exact flag_ne (by decide) f7 | exact fun _ => rfl
      · first | exact flag_ne (by decide) f8 | exact fun _ => rfl
      · intro h; rw [getD_set_ne false (by decide)] at h; have := f9 h; obtain ⟨q, e1, e2⟩ := this; exact (by first | exact ⟨q, e1, e2⟩ | exact ⟨q, e1, owns_below e2 hb⟩ | exact ⟨q, e1, owns_grown e2 hG (fun g hg => owns_type e2 g2 (by decide) hg)⟩ | (trace_state; fail))
      · intro _ _; first | (exact own_low HO hHeld.size) | (trace_state; fail)
      · intro h; rw [getD_set_ne false (by decide)] at h; exact (getD_no h0 (hC.step (j := 11) (k := 10) h (by kernel_rfl))).elim
      · intro h; rw [getD_set_ne false (by decide)] at h; exact (getD_no h0 (hC.step (j := 12) (k := 10) h (by kernel_rfl))).elim
    · refine StepAt.mk (o := { dst := some 16, op := Op.call { callee := Callee.builtin Builtin.append, args := #[Operand.tmp 7, Operand.tmp 15], argTypes := #[23, 23] }, type := 23, pos := _, after := #[{ on := 2, ground := Ground.data }, { on := 10, ground := Ground.data }, { on := 10, ground := Ground.chain }], guard := none }) (ws := [2, 10, 10]) rfl (by kernel_rfl) ?_
      rintro L b v hC h0 hA ⟨u4, u5, u6, u7, u8, u9, u10, u11, u12, u13, u14, u15, u16, rfl, hHeld, f0, f1, f2, f3, f4, f5, f6, f7, f8, f9, f10, f11, f12⟩ K hK
      have g2 := f2 (hA 2 (by simp)) h0
      have g10 := f10 (hA 10 (by simp)) h0
      rw [if_pos (by kernel_rfl)]
      have q0 := cellB hHeld C0 hg
      have q1 := cellB hHeld C1 hg
      have q2 := cellB hHeld C2 hg
      have q3 := cellB hHeld C3 hg
      have q4 := cellB hHeld C4 hg
      refine wp_append_src (.tmp 7) (.tmp 15) 23 rfl W0.heap.size 5 i (.int .u8 0) 1 1 Try.underlying23 hi hz hsize hby rfl (by omega) u7 M _ rfl g2 u15 3 _ rfl (src_own g10) rfl (bytesV_one _) (by unfold maxLen; omega) (by omega) hHeld.size ?_; intro v' w' HO hG
      try simp only [Act.put, List.setIfInBounds_toArray, List.set_cons_zero, List.set_cons_succ]
      refine hK.out _ _ ⟨_, _, _, _, _, _, _, _, _, _, _, _, _, rfl, ?_, ?_, ?_, ?_, ?_, ?_, ?_, ?_, ?_, ?_, ?_, ?_, ?_, ?_⟩
      · exact grown3 hHeld hHeld.size g2 hG
      · first | exact flag_ne (by decide) f0 | exact fun _ => rfl
      · first | exact flag_ne (by decide) f1 | exact fun _ => rfl
      · intro _ h7; rw [getD_set_self] at h7; cases h7
      · first | exact flag_ne (by decide) f3 | exact fun _ => rfl
      · first | exact flag_ne (by decide) f4 | exact fun _ => rfl
      · first | exact flag_ne (by decide) f5 | exact fun _ => rfl
      · first | exact flag_ne (by decide) f6 | exact fun _ => rfl
      · first | exact flag_ne (by decide) f7 | exact fun _ => rfl
      · first | exact flag_ne (by decide) f8 | exact fun _ => rfl
      · intro h; rw [getD_set_ne false (by decide)] at h; have := f9 h; obtain ⟨q, e1, e2⟩ := this; exact (by first | exact ⟨q, e1, e2⟩ | exact ⟨q, e1, owns_below e2 hb⟩ | exact ⟨q, e1, owns_grown e2 hG (fun g hg => owns_type e2 g2 (by decide) hg)⟩ | (trace_state; fail))
      · intro _ h7; rw [getD_set_self] at h7; cases h7
      · intro _; first | exact HO | (trace_state; fail)
      · intro h; rw [getD_set_ne false (by decide)] at h; exact (getD_no h0 (hC.step (j := 12) (k := 11) h (by kernel_rfl))).elim
    · refine StepAt.mk (o := { dst := some 4, op := Op.assign (Operand.tmp 16), type := 23, pos := _, after := #[{ on := 11, ground := Ground.data }, { on := 11, ground := Ground.chain }, { on := 0, ground := Ground.phase }, { on := 1, ground := Ground.phase }, { on := 2, ground := Ground.phase }, { on := 3, ground := Ground.phase }, { on := 4, ground := Ground.phase }, { on := 5, ground := Ground.phase }, { on := 6, ground := Ground.phase }, { on := 7, ground := Ground.phase }, { on := 8, ground := Ground.phase }, { on := 9, ground := Ground.phase }, { on := 10, ground := Ground.phase }, { on := 11, ground := Ground.phase }], guard := none }) (ws := [11, 11, 0, 1, 2, 3, 4, 5, 6, 7, 8, 9, 10, 11]) rfl (by kernel_rfl) ?_
      rintro L b v hC h0 hA ⟨u4, u5, u6, u7, u8, u9, u10, u11, u12, u13, u14, u15, u16, rfl, hHeld, f0, f1, f2, f3, f4, f5, f6, f7, f8, f9, f10, f11, f12⟩ K hK
      have g11 := f11 (hA 11 (by simp))
      have g0 := f0 (hA 0 (by simp))
      obtain rfl := g0
      have g1 := f1 (hA 1 (by simp))
      obtain rfl := g1
      have g2 := f2 (hA 2 (by simp))
      have g3 := f3 (hA 3 (by simp))
      obtain rfl := g3
      have g4 := f4 (hA 4 (by simp))
      obtain rfl := g4
      have g5 := f5 (hA 5 (by simp))
      obtain rfl := g5
      have g6 := f6 (hA 6 (by simp))
      obtain rfl := g6
      have g7 := f7 (hA 7 (by simp))
      obtain rfl := g7
      have g8 := f8 (hA 8 (by simp))
      obtain rfl := g8
      have g9 := f9 (hA 9 (by simp))
      obtain ⟨q14, rfl, H14⟩ := g9
      have g10 := f10 (hA 10 (by simp))
      rw [if_pos (by kernel_rfl)]
      have q0 := cellB hHeld C0 hg
      have q1 := cellB hHeld C1 hg
      have q2 := cellB hHeld C2 hg
      have q3 := cellB hHeld C3 hg
      have q4 := cellB hHeld C4 hg
      go_simp
      try simp only [Act.put, List.setIfInBounds_toArray, List.set_cons_zero, List.set_cons_succ]
      refine hK.out _ _ ⟨_, _, _, _, _, _, _, _, _, _, _, _, _, rfl, ?_, ?_, ?_, ?_, ?_, ?_, ?_, ?_, ?_, ?_, ?_, ?_, ?_, ?_⟩
      · first | exact hHeld | exact hHeld.trans (hb.mono hHeld.size) | (trace_state; fail)
      · first | exact flag_ne (by decide) f0 | exact fun _ => rfl
      · first | exact flag_ne (by decide) f1 | exact fun _ => rfl
      · intro h h7; rw [getD_set_ne false (by decide)] at h; rw [getD_set_ne true (by decide)] at h7; have := f2 h h7; first | exact this | exact owns_below this hb | (trace_state; fail)
      · first | exact flag_ne (by decide) f3 | exact fun _ => rfl
      · first | exact flag_ne (by decide) f4 | exact fun _ => rfl
      · first | exact flag_ne (by decide) f5 | exact fun _ => rfl
      · first | exact flag_ne (by decide) f6 | exact fun _ => rfl
      · first | exact flag_ne (by decide) f7 | exact fun _ => rfl
      · first | exact flag_ne (by decide) f8 | exact fun _ => rfl
      · intro h; rw [getD_set_ne false (by decide)] at h; have := f9 h; obtain ⟨q, e1, e2⟩ := this; exact (by first | exact ⟨q, e1, e2⟩ | exact ⟨q, e1, owns_below e2 hb⟩ | exact ⟨q, e1, owns_grown e2 hG (fun g hg => owns_type e2 g2 (by decide) hg)⟩ | (trace_state; fail))
      · intro h h7; rw [getD_set_ne false (by decide)] at h; rw [getD_set_ne true (by decide)] at h7; have := f10 h h7; first | exact this | exact owns_below this hb | (trace_state; fail)
      · intro h; rw [getD_set_ne false (by decide)] at h; have := f11 h; first | exact this | exact owns_below this hb | (trace_state; fail)
      · intro _; first | exact g11 | (trace_state; fail)
  rintro L b v hA ⟨u4, u5, u6, u7, u8, u9, u10, u11, u12, u13, u14, u15, u16, rfl, hHeld, f0, f1, f2, f3, f4, f5, f6, f7, f8, f9, f10, f11, f12⟩
  have g0 := f0 (hA 0 (by omega))
  clear f0
  obtain rfl := g0
  have g1 := f1 (hA 1 (by omega))
  clear f1
  obtain rfl := g1
  clear f2
  have g3 := f3 (hA 3 (by omega))
  clear f3
  obtain rfl := g3
  have g4 := f4 (hA 4 (by omega))
  clear f4
  obtain rfl := g4
  have g5 := f5 (hA 5 (by omega))
  clear f5
  obtain rfl := g5
  have g6 := f6 (hA 6 (by omega))
  clear f6
  obtain rfl := g6
  have g7 := f7 (hA 7 (by omega))
  clear f7
  obtain rfl := g7
  have g8 := f8 (hA 8 (by omega))
  clear f8
  obtain rfl := g8
  have g9 := f9 (hA 9 (by omega))
  clear f9
  obtain ⟨q14, rfl, H14⟩ := g9
  clear f10
  have g11 := f11 (hA 11 (by omega))
  clear f11
  have g12 := f12 (hA 12 (by omega))
  clear f12
  clear hA
  exact ⟨rfl, _, _, _, _, _, _, _, _, _, _, _, _, _, rfl, hHeld, g12⟩
end Go.Proofs.Ytdpcfcflcfjmjaa
