/- Layer 9: the first region of CountHolds: two copies. -/
import Derived.Test.YtlkikadijlhngaaHoldsR
namespace Go.Proofs.Ytlkikadijlhngaa
open Go.RowKit
set_option linter.unusedSimpArgs false
set_option linter.unusedVariables false
set_option maxHeartbeats 4000000 in
theorem holds_r1 (W : World) (q1 : Nat) (x0 x1 x2 x3 x4 x5 x6 x7 x8 x9 : Int) (hq1 : q1 < W.heap.size) (HX : W.heap[q1]? = some (.cells #[.int .i64 x0, .int .i64 x1, .int .i64 x2, .int .i64 x3, .int .i64 x4, .int .i64 x5, .int .i64 x6, .int .i64 x7, .int .i64 x8, .int .i64 x9] 24 (0, 0))) (t0 t2 t5 t6 t7 t8 t9 t10 t11 t12 t13 t14 t15 t16 t17 t18 t19 t20 t21 t22 t23 t24 t25 t26 t27 t28 t29 t30 t31 t32 t33 t34 t35 t36 t37 t38 t39 t40 t41 t42 t43 t44 t45 t46 t47 t48 t49 t50 t51 t52 t53 t54 t55 t56 t57 t58 t59 t60 t61 t62 t63 t64 t65 t66 t67 t68 t69 t70 t71 t72 t73 t74 t75 t76 t77 t78 t79 t80 t81 t82 t83 t84 t85 t86 t87 t88 t89 t90 t91 t92 t93 t94 t95 : Value) :
    (Code.region 1 #[{ dst := some 10, op := Op.load 24 (Operand.tmp 1), type := 24, pos := "law.go:66", after := #[], guard := none }, { dst := some 11, op := Op.load 24 (Operand.tmp 1), type := 24, pos := "law.go:66", after := #[{ on := 4, ground := Ground.gcOnly Departure.lateStores }], guard := none }, { dst := some 3, op := Op.alloc 24, type := 0, pos := "law.go:66", after := #[], guard := none }, { dst := some 4, op := Op.alloc 24, type := 0, pos := "law.go:66", after := #[], guard := none }, { dst := none, op := Op.store 24 (Operand.tmp 3) (Operand.tmp 10), type := 0, pos := "law.go:66", after := #[{ on := 2, ground := Ground.data }, { on := 0, ground := Ground.data }, { on := 0, ground := Ground.phase }, { on := 1, ground := Ground.textOnly Departure.lateStores }, { on := 2, ground := Ground.phase }, { on := 3, ground := Ground.phase }], guard := none }, { dst := none, op := Op.store 24 (Operand.tmp 4) (Operand.tmp 11), type := 0, pos := "law.go:66", after := #[{ on := 3, ground := Ground.data }, { on := 1, ground := Ground.data }, { on := 4, ground := Ground.chain }, { on := 0, ground := Ground.phase }, { on := 1, ground := Ground.phase }, { on := 2, ground := Ground.phase }, { on := 3, ground := Ground.phase }, { on := 4, ground := Ground.phase }], guard := none }] true).wp Try.prog (fun e b v => e = Exit.normal ∧ ∃ u3 u4 u10 u11 : Value, b = ⟨#[t0, .pointer (some ⟨q1, 0, none⟩), t2, u3, u4, t5, t6, t7, t8, t9, u10, u11, t12, t13, t14, t15, t16, t17, t18, t19, t20, t21, t22, t23, t24, t25, t26, t27, t28, t29, t30, t31, t32, t33, t34, t35, t36, t37, t38, t39, t40, t41, t42, t43, t44, t45, t46, t47, t48, t49, t50, t51, t52, t53, t54, t55, t56, t57, t58, t59, t60, t61, t62, t63, t64, t65, t66, t67, t68, t69, t70, t71, t72, t73, t74, t75, t76, t77, t78, t79, t80, t81, t82, t83, t84, t85, t86, t87, t88, t89, t90, t91, t92, t93, t94, t95], []⟩ ∧ Below W.heap.size W v ∧ (∃ q, u3 = .pointer (some ⟨q, 0, none⟩) ∧ W.heap.size ≤ q ∧ q < v.heap.size) ∧ (∃ q, u4 = .pointer (some ⟨q, 0, none⟩) ∧ W.heap.size ≤ q ∧ q < v.heap.size) ∧ (∀ q, u3 = .pointer (some ⟨q, 0, none⟩) → v.heap[q]? = some (.cells #[.int .i64 x0, .int .i64 x1, .int .i64 x2, .int .i64 x3, .int .i64 x4, .int .i64 x5, .int .i64 x6, .int .i64 x7, .int .i64 x8, .int .i64 x9] 24 (0, 0))) ∧ ((∀ q, u4 = .pointer (some ⟨q, 0, none⟩) → v.heap[q]? = some (.cells #[.int .i64 x0, .int .i64 x1, .int .i64 x2, .int .i64 x3, .int .i64 x4, .int .i64 x5, .int .i64 x6, .int .i64 x7, .int .i64 x8, .int .i64 x9] 24 (0, 0))) ∧ ∀ q, u3 = .pointer (some ⟨q, 0, none⟩) → u4 ≠ .pointer (some ⟨q, 0, none⟩))) ⟨#[t0, .pointer (some ⟨q1, 0, none⟩), t2, undef, undef, t5, t6, t7, t8, t9, t10, t11, t12, t13, t14, t15, t16, t17, t18, t19, t20, t21, t22, t23, t24, t25, t26, t27, t28, t29, t30, t31, t32, t33, t34, t35, t36, t37, t38, t39, t40, t41, t42, t43, t44, t45, t46, t47, t48, t49, t50, t51, t52, t53, t54, t55, t56, t57, t58, t59, t60, t61, t62, t63, t64, t65, t66, t67, t68, t69, t70, t71, t72, t73, t74, t75, t76, t77, t78, t79, t80, t81, t82, t83, t84, t85, t86, t87, t88, t89, t90, t91, t92, t93, t94, t95], []⟩ W := by
  refine wp_region_facts (n := 6) (fun L b v => ∃ u3 u4 u10 u11 : Value, b = ⟨#[t0, .pointer (some ⟨q1, 0, none⟩), t2, u3, u4, t5, t6, t7, t8, t9, u10, u11, t12, t13, t14, t15, t16, t17, t18, t19, t20, t21, t22, t23, t24, t25, t26, t27, t28, t29, t30, t31, t32, t33, t34, t35, t36, t37, t38, t39, t40, t41, t42, t43, t44, t45, t46, t47, t48, t49, t50, t51, t52, t53, t54, t55, t56, t57, t58, t59, t60, t61, t62, t63, t64, t65, t66, t67, t68, t69, t70, t71, t72, t73, t74, t75, t76, t77, t78, t79, t80, t81, t82, t83, t84, t85, t86, t87, t88, t89, t90, t91, t92, t93, t94, t95], []⟩ ∧ Below W.heap.size W v ∧ (L.getD 0 false = true → u10 = .agg #[.int .i64 x0, .int .i64 x1, .int .i64 x2, .int .i64 x3, .int .i64 x4, .int .i64 x5, .int .i64 x6, .int .i64 x7, .int .i64 x8, .int .i64 x9]) ∧ (L.getD 1 false = true → u11 = .agg #[.int .i64 x0, .int .i64 x1, .int .i64 x2, .int .i64 x3, .int .i64 x4, .int .i64 x5, .int .i64 x6, .int .i64 x7, .int .i64 x8, .int .i64 x9]) ∧ (L.getD 2 false = true → ∃ q, u3 = .pointer (some ⟨q, 0, none⟩) ∧ W.heap.size ≤ q ∧ q < v.heap.size) ∧ (L.getD 3 false = true → ∃ q, u4 = .pointer (some ⟨q, 0, none⟩) ∧ W.heap.size ≤ q ∧ q < v.heap.size) ∧ (L.getD 4 false = true → ∀ q, u3 = .pointer (some ⟨q, 0, none⟩) → v.heap[q]? = some (.cells #[.int .i64 x0, .int .i64 x1, .int .i64 x2, .int .i64 x3, .int .i64 x4, .int .i64 x5, .int .i64 x6, .int .i64 x7, .int .i64 x8, .int .i64 x9] 24 (0, 0))) ∧ (L.getD 5 false = true → (∀ q, u4 = .pointer (some ⟨q, 0, none⟩) → v.heap[q]? = some (.cells #[.int .i64 x0, .int .i64 x1, .int .i64 x2, .int .i64 x3, .int .i64 x4, .int .i64 x5, .int .i64 x6, .int .i64 x7, .int .i64 x8, .int .i64 x9] 24 (0, 0))) ∧ ∀ q, u3 = .pointer (some ⟨q, 0, none⟩) → u4 ≠ .pointer (some ⟨q, 0, none⟩)) ∧ (L.getD 2 false = false → u3 = undef) ∧ (L.getD 3 false = false → u4 = undef) ∧ (L.getD 5 false = false → ∀ q, u3 = .pointer (some ⟨q, 0, none⟩) → u4 ≠ .pointer (some ⟨q, 0, none⟩)) ∧ (L.getD 4 false = false → ∀ q, u3 = .pointer (some ⟨q, 0, none⟩) → v.heap[q]? = some (.cells #[.int .i64 0, .int .i64 0, .int .i64 0, .int .i64 0, .int .i64 0, .int .i64 0, .int .i64 0, .int .i64 0, .int .i64 0, .int .i64 0] 24 (0, 0))) ∧ (L.getD 5 false = false → ∀ q, u4 = .pointer (some ⟨q, 0, none⟩) → v.heap[q]? = some (.cells #[.int .i64 0, .int .i64 0, .int .i64 0, .int .i64 0, .int .i64 0, .int .i64 0, .int .i64 0, .int .i64 0, .int .i64 0, .int .i64 0] 24 (0, 0)))) (by kernel_rfl) (by kernel_rfl) (by kernel_rfl) ?_ ?_ ?_
  · refine ⟨_, _, _, _, rfl, (Below.refl _ _).drew, flag_new, flag_new, flag_new, flag_new, flag_new, flag_new, fun _ => (by first | rfl | assumption), fun _ => (by first | rfl | assumption), fun _ => (by intro q h; cases h), fun _ => (by intro q h; cases h), fun _ => (by intro q h; cases h)⟩
  · refine AllSteps.succ (AllSteps.succ (AllSteps.succ (AllSteps.succ (AllSteps.succ (AllSteps.succ AllSteps.zero ?_) ?_) ?_) ?_) ?_) ?_
    · refine StepAt.mk (o := { dst := some 10, op := Op.load 24 (Operand.tmp 1), type := 24, pos := _, after := #[], guard := none }) (ws := []) rfl (by kernel_rfl) ?_
      rintro L b v hC h0 hA ⟨u3, u4, u10, u11, rfl, hHeld, f0, f1, f2, f3, f4, f5, ea, eb, ec, ex, ey⟩ K hK
      have hh := (hHeld.block q1 hq1).trans HX
      have m0 := cell_of' hh 0 (v := .int .i64 x0) rfl
      have m1 := cell_of' hh 1 (v := .int .i64 x1) rfl
      have m2 := cell_of' hh 2 (v := .int .i64 x2) rfl
      have m3 := cell_of' hh 3 (v := .int .i64 x3) rfl
      have m4 := cell_of' hh 4 (v := .int .i64 x4) rfl
      have m5 := cell_of' hh 5 (v := .int .i64 x5) rfl
      have m6 := cell_of' hh 6 (v := .int .i64 x6) rfl
      have m7 := cell_of' hh 7 (v := .int .i64 x7) rfl
      have m8 := cell_of' hh 8 (v := .int .i64 x8) rfl
      have m9 := cell_of' hh 9 (v := .int .i64 x9) rfl
      clear hh
      rw [if_pos (by kernel_rfl)]
      go_simp
      try simp only [Act.put, List.setIfInBounds_toArray, List.set_cons_zero, List.set_cons_succ]
      refine hK.out _ _ ⟨_, _, _, _, rfl, ?_, ?_, ?_, ?_, ?_, ?_, ?_, ?_, ?_, ?_, ?_, ?_⟩
      · first | exact hHeld | exact hHeld.trans (hb.mono hHeld.size) | (trace_state; fail)
      · intro _; first | rfl | (trace_state; fail)
      · first | exact flag_ne (by decide) f1 | exact fun _ => rfl
      · intro h; rw [getD_set_ne false (by decide)] at h; have := f2 h; obtain ⟨q, e1, e2, e3⟩ := this; exact ⟨q, e1, e2, by first | (simp only [World.size_setCell, World.size_alloc]; omega) | exact e3⟩
      · intro h; rw [getD_set_ne false (by decide)] at h; have := f3 h; obtain ⟨q, e1, e2, e3⟩ := this; exact ⟨q, e1, e2, by first | (simp only [World.size_setCell, World.size_alloc]; omega) | exact e3⟩
      · intro h; rw [getD_set_ne false (by decide)] at h; exact (getD_no h0 (hC.step (j := 4) (k := 0) h (by kernel_rfl))).elim
      · intro h; rw [getD_set_ne false (by decide)] at h; exact (getD_no h0 (hC.step (j := 5) (k := 0) h (by kernel_rfl))).elim
      · intro h; rw [getD_set_ne false (by decide)] at h; have := ea h; first | exact this | exact owns_below this hb | (trace_state; fail)
      · intro h; rw [getD_set_ne false (by decide)] at h; have := eb h; first | exact this | exact owns_below this hb | (trace_state; fail)
      · intro h; rw [getD_set_ne false (by decide)] at h; have := ec h; exact this
      · intro h; rw [getD_set_ne false (by decide)] at h; have := ex h; first | exact this | (intro q hq; exact alloc_stay (this q hq)) | (trace_state; fail)
      · intro h; rw [getD_set_ne false (by decide)] at h; have := ey h; first | exact this | (intro q hq; exact alloc_stay (this q hq)) | (trace_state; fail)
    · refine StepAt.mk (o := { dst := some 11, op := Op.load 24 (Operand.tmp 1), type := 24, pos := _, after := #[{ on := 4, ground := Ground.gcOnly Departure.lateStores }], guard := none }) (ws := []) rfl (by kernel_rfl) ?_
      rintro L b v hC h0 hA ⟨u3, u4, u10, u11, rfl, hHeld, f0, f1, f2, f3, f4, f5, ea, eb, ec, ex, ey⟩ K hK
      have hh := (hHeld.block q1 hq1).trans HX
      have m0 := cell_of' hh 0 (v := .int .i64 x0) rfl
      have m1 := cell_of' hh 1 (v := .int .i64 x1) rfl
      have m2 := cell_of' hh 2 (v := .int .i64 x2) rfl
      have m3 := cell_of' hh 3 (v := .int .i64 x3) rfl
      have m4 := cell_of' hh 4 (v := .int .i64 x4) rfl
      have m5 := cell_of' hh 5 (v := .int .i64 x5) rfl
      have m6 := cell_of' hh 6 (v := .int .i64 x6) rfl
      have m7 := cell_of' hh 7 (v := .int .i64 x7) rfl
      have m8 := cell_of' hh 8 (v := .int .i64 x8) rfl
      have m9 := cell_of' hh 9 (v := .int .i64 x9) rfl
      clear hh
      rw [if_pos (by kernel_rfl)]
      go_simp
      try simp only [Act.put, List.setIfInBounds_toArray, List.set_cons_zero, List.set_cons_succ]
      refine hK.out _ _ ⟨_, _, _, _, rfl, ?_, ?_, ?_, ?_, ?_, ?_, ?_, ?_, ?_, ?_, ?_, ?_⟩
      · first | exact hHeld | exact hHeld.trans (hb.mono hHeld.size) | (trace_state; fail)
      · first | exact flag_ne (by decide) f0 | exact fun _ => rfl
      · intro _; first | rfl | (trace_state; fail)
      · intro h; rw [getD_set_ne false (by decide)] at h; have := f2 h; obtain ⟨q, e1, e2, e3⟩ := this; exact ⟨q, e1, e2, by first | (simp only [World.size_setCell, World.size_alloc]; omega) | exact e3⟩
      · intro h; rw [getD_set_ne false (by decide)] at h; have := f3 h; obtain ⟨q, e1, e2, e3⟩ := this; exact ⟨q, e1, e2, by first | (simp only [World.size_setCell, World.size_alloc]; omega) | exact e3⟩
      · intro h; rw [getD_set_ne false (by decide)] at h; have := f4 h; first | exact this | exact owns_below this hb | (trace_state; fail)
      · intro h; rw [getD_set_ne false (by decide)] at h; exact (getD_no h0 (hC.step (j := 5) (k := 1) h (by kernel_rfl))).elim
      · intro h; rw [getD_set_ne false (by decide)] at h; have := ea h; first | exact this | exact owns_below this hb | (trace_state; fail)
      · intro h; rw [getD_set_ne false (by decide)] at h; have := eb h; first | exact this | exact owns_below this hb | (trace_state; fail)
      · intro h; rw [getD_set_ne false (by decide)] at h; have := ec h; exact this
      · intro h; rw [getD_set_ne false (by decide)] at h; have := ex h; first | exact this | (intro q hq; exact alloc_stay (this q hq)) | (trace_state; fail)
      · intro h; rw [getD_set_ne false (by decide)] at h; have := ey h; first | exact this | (intro q hq; exact alloc_stay (this q hq)) | (trace_state; fail)
    · refine StepAt.mk (o := { dst := some 3, op := Op.alloc 24, type := 0, pos := _, after := #[], guard := none }) (ws := []) rfl (by kernel_rfl) ?_
      rintro L b v hC h0 hA ⟨u3, u4, u10, u11, rfl, hHeld, f0, f1, f2, f3, f4, f5, ea, eb, ec, ex, ey⟩ K hK
      rw [if_pos (by kernel_rfl)]
      go_simp
      try simp only [Act.put, List.setIfInBounds_toArray, List.set_cons_zero, List.set_cons_succ]
      refine hK.out _ _ ⟨_, _, _, _, rfl, ?_, ?_, ?_, ?_, ?_, ?_, ?_, ?_, ?_, ?_, ?_, ?_⟩
      · exact hHeld.alloc hHeld.size _
      · first | exact flag_ne (by decide) f0 | exact fun _ => rfl
      · first | exact flag_ne (by decide) f1 | exact fun _ => rfl
      · intro _; first | exact ⟨_, rfl, hHeld.size, by simp⟩ | (trace_state; fail)
      · intro h; rw [getD_set_ne false (by decide)] at h; have := f3 h; obtain ⟨q, e1, e2, e3⟩ := this; exact ⟨q, e1, e2, by first | (simp only [World.size_setCell, World.size_alloc]; omega) | exact e3⟩
      · intro h; rw [getD_set_ne false (by decide)] at h; exact (getD_no h0 (hC.step (j := 4) (k := 2) h (by kernel_rfl))).elim
      · intro h; rw [getD_set_ne false (by decide)] at h; exact (getD_no h0 (hC.step (j := 5) (k := 2) h (by kernel_rfl))).elim
      · intro h; rw [getD_set_done h0] at h; cases h
      · intro h; rw [getD_set_ne false (by decide)] at h; have := eb h; first | exact this | exact owns_below this hb | (trace_state; fail)
      · intro h; rw [getD_set_ne false (by decide)] at h; have := ec h; intro q hq; cases hq; intro h6; have hno : L.getD 3 false = true → False := fun h5 => (by obtain ⟨q6, e1, _, e3⟩ := f3 h5; rw [e1] at h6; cases h6; omega); cases h5 : L.getD 3 false; exact (by have := eb h5; rw [this] at h6; cases h6); exact hno h5
      · intro h; rw [getD_set_ne false (by decide)] at h; have := ex h; intro q hq; cases hq; exact heap_alloc_new v _
      · intro h; rw [getD_set_ne false (by decide)] at h; have := ey h; first | exact this | (intro q hq; exact alloc_stay (this q hq)) | (trace_state; fail)
    · refine StepAt.mk (o := { dst := some 4, op := Op.alloc 24, type := 0, pos := _, after := #[], guard := none }) (ws := []) rfl (by kernel_rfl) ?_
      rintro L b v hC h0 hA ⟨u3, u4, u10, u11, rfl, hHeld, f0, f1, f2, f3, f4, f5, ea, eb, ec, ex, ey⟩ K hK
      rw [if_pos (by kernel_rfl)]
      go_simp
      try simp only [Act.put, List.setIfInBounds_toArray, List.set_cons_zero, List.set_cons_succ]
      refine hK.out _ _ ⟨_, _, _, _, rfl, ?_, ?_, ?_, ?_, ?_, ?_, ?_, ?_, ?_, ?_, ?_, ?_⟩
      · exact hHeld.alloc hHeld.size _
      · first | exact flag_ne (by decide) f0 | exact fun _ => rfl
      · first | exact flag_ne (by decide) f1 | exact fun _ => rfl
      · intro h; rw [getD_set_ne false (by decide)] at h; have := f2 h; obtain ⟨q, e1, e2, e3⟩ := this; exact ⟨q, e1, e2, by first | (simp only [World.size_setCell, World.size_alloc]; omega) | exact e3⟩
      · intro _; first | exact ⟨_, rfl, hHeld.size, by simp⟩ | (trace_state; fail)
      · intro h; rw [getD_set_ne false (by decide)] at h; exact (getD_no h0 (hC.step (j := 4) (k := 3) h (by kernel_rfl))).elim
      · intro h; rw [getD_set_ne false (by decide)] at h; exact (getD_no h0 (hC.step (j := 5) (k := 3) h (by kernel_rfl))).elim
      · intro h; rw [getD_set_ne false (by decide)] at h; have := ea h; first | exact this | exact owns_below this hb | (trace_state; fail)
      · intro h; rw [getD_set_done h0] at h; cases h
      · intro h; rw [getD_set_ne false (by decide)] at h; have := ec h; intro q hq h6; cases h6; have hno : L.getD 2 false = true → False := fun h5 => (by obtain ⟨q6, e1, _, e3⟩ := f2 h5; rw [e1] at hq; cases hq; omega); cases h5 : L.getD 2 false; exact (by have := ea h5; rw [this] at hq; cases hq); exact hno h5
      · intro h; rw [getD_set_ne false (by decide)] at h; have := ex h; first | exact this | (intro q hq; exact alloc_stay (this q hq)) | (trace_state; fail)
      · intro h; rw [getD_set_ne false (by decide)] at h; have := ey h; intro q hq; cases hq; exact heap_alloc_new v _
    · refine StepAt.mk (o := { dst := none, op := Op.store 24 (Operand.tmp 3) (Operand.tmp 10), type := 0, pos := _, after := #[{ on := 2, ground := Ground.data }, { on := 0, ground := Ground.data }, { on := 0, ground := Ground.phase }, { on := 1, ground := Ground.textOnly Departure.lateStores }, { on := 2, ground := Ground.phase }, { on := 3, ground := Ground.phase }], guard := none }) (ws := [2, 0, 0, 2, 3]) rfl (by kernel_rfl) ?_
      rintro L b v hC h0 hA ⟨u3, u4, u10, u11, rfl, hHeld, f0, f1, f2, f3, f4, f5, ea, eb, ec, ex, ey⟩ K hK
      have g2 := f2 (hA 2 (by simp))
      obtain ⟨q3, rfl, y3, x3'⟩ := g2
      have g0 := f0 (hA 0 (by simp))
      obtain rfl := g0
      have g3 := f3 (hA 3 (by simp))
      obtain ⟨q4, rfl, y4, x4'⟩ := g3
      have dc := ec (Bool.eq_false_iff.2 (fun h => getD_no h0 (hC.step (j := 5) (k := 4) h (by kernel_rfl))))
      have dx := ex (getD_open h0)
      have zz := dx q3 rfl
      have m0 := cell_of' zz 0 (v := .int .i64 0) rfl
      have m1 := cell_of' zz 1 (v := .int .i64 0) rfl
      have m2 := cell_of' zz 2 (v := .int .i64 0) rfl
      have m3 := cell_of' zz 3 (v := .int .i64 0) rfl
      have m4 := cell_of' zz 4 (v := .int .i64 0) rfl
      have m5 := cell_of' zz 5 (v := .int .i64 0) rfl
      have m6 := cell_of' zz 6 (v := .int .i64 0) rfl
      have m7 := cell_of' zz 7 (v := .int .i64 0) rfl
      have m8 := cell_of' zz 8 (v := .int .i64 0) rfl
      have m9 := cell_of' zz 9 (v := .int .i64 0) rfl
      have f'0 := free_of' zz 0
      have f'1 := free_of' zz 1
      have f'2 := free_of' zz 2
      have f'3 := free_of' zz 3
      have f'4 := free_of' zz 4
      have f'5 := free_of' zz 5
      have f'6 := free_of' zz 6
      have f'7 := free_of' zz 7
      have f'8 := free_of' zz 8
      have f'9 := free_of' zz 9
      rw [if_pos (by kernel_rfl)]
      go_simp
      try simp only [Act.put, List.setIfInBounds_toArray, List.set_cons_zero, List.set_cons_succ]
      refine hK.out _ _ ⟨_, _, _, _, rfl, ?_, ?_, ?_, ?_, ?_, ?_, ?_, ?_, ?_, ?_, ?_, ?_⟩
      · exact st10_below hHeld y3
      · first | exact flag_ne (by decide) f0 | exact fun _ => rfl
      · first | exact flag_ne (by decide) f1 | exact fun _ => rfl
      · intro h; rw [getD_set_ne false (by decide)] at h; have := f2 h; obtain ⟨q, e1, e2, e3⟩ := this; exact ⟨q, e1, e2, by first | (simp only [World.size_setCell, World.size_alloc]; omega) | exact e3⟩
      · intro h; rw [getD_set_ne false (by decide)] at h; have := f3 h; obtain ⟨q, e1, e2, e3⟩ := this; exact ⟨q, e1, e2, by first | (simp only [World.size_setCell, World.size_alloc]; omega) | exact e3⟩
      · intro _; first | (intro q hq; cases hq; exact st10_at zz) | (trace_state; fail)
      · intro h; rw [getD_set_ne false (by decide)] at h; exact (getD_no h0 (hC.step (j := 5) (k := 4) h (by kernel_rfl))).elim
      · intro h; rw [getD_set_ne false (by decide)] at h; have := ea h; first | exact this | exact owns_below this hb | (trace_state; fail)
      · intro h; rw [getD_set_ne false (by decide)] at h; have := eb h; first | exact this | exact owns_below this hb | (trace_state; fail)
      · intro h; first | rfl | (rw [getD_set_ne false (by decide)] at h; have := ec h; exact this)
      · intro h; rw [getD_set_done h0] at h; cases h
      · intro h; rw [getD_set_ne false (by decide)] at h; have := ey h; intro q hq; exact (st10_ne (fun e => dc q3 rfl (by rw [← e]; exact hq))).trans (this q hq)
    · refine StepAt.mk (o := { dst := none, op := Op.store 24 (Operand.tmp 4) (Operand.tmp 11), type := 0, pos := _, after := #[{ on := 3, ground := Ground.data }, { on := 1, ground := Ground.data }, { on := 4, ground := Ground.chain }, { on := 0, ground := Ground.phase }, { on := 1, ground := Ground.phase }, { on := 2, ground := Ground.phase }, { on := 3, ground := Ground.phase }, { on := 4, ground := Ground.phase }], guard := none }) (ws := [3, 1, 4, 0, 1, 2, 3, 4]) rfl (by kernel_rfl) ?_
      rintro L b v hC h0 hA ⟨u3, u4, u10, u11, rfl, hHeld, f0, f1, f2, f3, f4, f5, ea, eb, ec, ex, ey⟩ K hK
      have g3 := f3 (hA 3 (by simp))
      obtain ⟨q4, rfl, y4, x4'⟩ := g3
      have g1 := f1 (hA 1 (by simp))
      obtain rfl := g1
      have g4 := f4 (hA 4 (by simp))
      have g0 := f0 (hA 0 (by simp))
      obtain rfl := g0
      have g2 := f2 (hA 2 (by simp))
      obtain ⟨q3, rfl, y3, x3'⟩ := g2
      have dc := ec (getD_open h0)
      have dy := ey (getD_open h0)
      have zz := dy q4 rfl
      have m0 := cell_of' zz 0 (v := .int .i64 0) rfl
      have m1 := cell_of' zz 1 (v := .int .i64 0) rfl
      have m2 := cell_of' zz 2 (v := .int .i64 0) rfl
      have m3 := cell_of' zz 3 (v := .int .i64 0) rfl
      have m4 := cell_of' zz 4 (v := .int .i64 0) rfl
      have m5 := cell_of' zz 5 (v := .int .i64 0) rfl
      have m6 := cell_of' zz 6 (v := .int .i64 0) rfl
      have m7 := cell_of' zz 7 (v := .int .i64 0) rfl
      have m8 := cell_of' zz 8 (v := .int .i64 0) rfl
      have m9 := cell_of' zz 9 (v := .int .i64 0) rfl
      have f'0 := free_of' zz 0
      have f'1 := free_of' zz 1
      have f'2 := free_of' zz 2
      have f'3 := free_of' zz 3
      have f'4 := free_of' zz 4
      have f'5 := free_of' zz 5
      have f'6 := free_of' zz 6
      have f'7 := free_of' zz 7
      have f'8 := free_of' zz 8
      have f'9 := free_of' zz 9
      rw [if_pos (by kernel_rfl)]
      go_simp
      try simp only [Act.put, List.setIfInBounds_toArray, List.set_cons_zero, List.set_cons_succ]
      refine hK.out _ _ ⟨_, _, _, _, rfl, ?_, ?_, ?_, ?_, ?_, ?_, ?_, ?_, ?_, ?_, ?_, ?_⟩
      · exact st10_below hHeld y4
      · first | exact flag_ne (by decide) f0 | exact fun _ => rfl
      · first | exact flag_ne (by decide) f1 | exact fun _ => rfl
      · intro h; rw [getD_set_ne false (by decide)] at h; have := f2 h; obtain ⟨q, e1, e2, e3⟩ := this; exact ⟨q, e1, e2, by first | (simp only [World.size_setCell, World.size_alloc]; omega) | exact e3⟩
      · intro h; rw [getD_set_ne false (by decide)] at h; have := f3 h; obtain ⟨q, e1, e2, e3⟩ := this; exact ⟨q, e1, e2, by first | (simp only [World.size_setCell, World.size_alloc]; omega) | exact e3⟩
      · intro h; rw [getD_set_ne false (by decide)] at h; have := f4 h; intro q hq; exact (st10_ne (fun e => dc q hq (by rw [e]))).trans (this q hq)
      · intro _; first | exact ⟨fun q hq => (by cases hq; exact st10_at zz), dc⟩ | (trace_state; fail)
      · intro h; rw [getD_set_ne false (by decide)] at h; have := ea h; first | exact this | exact owns_below this hb | (trace_state; fail)
      · intro h; rw [getD_set_ne false (by decide)] at h; have := eb h; first | exact this | exact owns_below this hb | (trace_state; fail)
      · intro h; rw [getD_set_done h0] at h; cases h
      · intro h; rw [getD_set_ne false (by decide)] at h; have := ex h; exfalso; rw [hA 4 (by simp)] at h; cases h
      · intro h; rw [getD_set_done h0] at h; cases h
  rintro L b v hA ⟨u3, u4, u10, u11, rfl, hHeld, f0, f1, f2, f3, f4, f5, ea, eb, ec, ex, ey⟩
  clear ea
  clear eb
  clear ec
  clear ex
  clear ey
  have g0 := f0 (hA 0 (by omega))
  clear f0
  obtain rfl := g0
  have g1 := f1 (hA 1 (by omega))
  clear f1
  obtain rfl := g1
  have g2 := f2 (hA 2 (by omega))
  clear f2
  have g3 := f3 (hA 3 (by omega))
  clear f3
  have g4 := f4 (hA 4 (by omega))
  clear f4
  have g5 := f5 (hA 5 (by omega))
  clear f5
  clear hA
  exact ⟨rfl, _, _, _, _, rfl, hHeld, g2, g3, g4, g5⟩
end Go.Proofs.Ytlkikadijlhngaa
