/- Layer 3: bytes are read of both readers. -/
import Derived.Test.YteffcopdhimbaaaReads
namespace Go.Proofs.Yteffcopdhimbaaa
open Go.RowKit
set_option linter.unusedSimpArgs false
set_option linter.unusedVariables false
set_option maxHeartbeats 4000000 in
theorem reads_r13 (wr : World) (B0 : Nat) (g q g2 q2 : Nat) (LL : List UInt8) (n n1 : Nat) (bd b1 : Bool) (bk off k N ca : Nat) (z : Int) (B : List UInt8) (hgq : g ≠ g2 ∧ g ≠ q2 ∧ q ≠ g2) (hB : B0 ≤ g ∧ B0 ≤ g2) (hB0 : B0 ≤ wr.heap.size) (hbk : bk < B0) (hk : k < N) (hN : N ≤ 50) (c1 : wr.cell? ⟨bk, off + k * 2 + 1, none⟩ = some (.int .i64 z)) (HR : RdAt wr g q LL n bd) (HF : RfAt wr g2 q2 LL n bd) (HP : Hid (∀ W, RdAt W g q LL n bd → Calls Try.prog 14 #[.pointer (some ⟨g, 0, none⟩), .int .i64 z] W fun e w' => ∃ r, e = .returned r ∧ RowAt w' r B.length (byteV B) ∧ RdAt w' g q LL n1 b1 ∧ W.grownBy w' (some g))) (HQ : Hid (∀ W, RfAt W g2 q2 LL n bd → Calls Try.prog 15 #[.pointer (some ⟨g2, 0, none⟩), .int .i64 z] W fun e w' => ∃ r, e = .returned r ∧ RowAt w' r B.length (byteV B) ∧ inBlk r q2 ∧ RfAt w' g2 q2 LL n1 b1 ∧ W.grownBy w' (some g2))) (t0 t2 t3 t4 t8 t9 t10 t11 t12 t13 t14 t15 t16 t17 t18 t19 t20 t21 t22 t23 t24 t25 t26 t27 t28 t29 t30 t31 t32 t33 t34 t35 t36 t37 t38 t39 t40 t41 t42 t43 t44 t45 t46 t47 t48 t49 t50 t51 t52 t53 t54 t55 t56 t57 t58 t59 t60 t61 t62 t63 t64 t65 t66 t67 t68 t69 t70 t71 t72 t73 t74 t75 t76 t77 t78 t79 t80 t81 t82 t83 t84 t85 t86 t87 t88 t89 t90 t91 t92 t93 t94 t95 t96 t97 t98 t99 t100 t101 t102 t103 t104 t105 t106 t107 t108 t109 t110 t111 t112 t113 t114 t115 t116 t117 t118 t119 t120 t121 t122 t123 t124 t125 t126 t127 t128 : Value) :
    (Code.region 13 #[{ dst := some 61, op := Op.move (Operand.tmp 5), type := 28, pos := "law.go:35", after := #[], guard := none }, { dst := some 62, op := Op.move (Operand.tmp 1), type := 27, pos := "law.go:35", after := #[], guard := none }, { dst := some 63, op := Op.move (Operand.tmp 7), type := 3, pos := "law.go:35", after := #[], guard := none }, { dst := some 64, op := Op.indexAddr 27 (Operand.tmp 62) (Operand.tmp 63), type := 0, pos := "law.go:35", after := #[{ on := 1, ground := Ground.data }, { on := 2, ground := Ground.data }], guard := none }, { dst := some 65, op := Op.fieldAddr 34 (Operand.tmp 64) 1, type := 0, pos := "law.go:35", after := #[{ on := 3, ground := Ground.data }], guard := none }, { dst := some 66, op := Op.load 3 (Operand.tmp 65), type := 3, pos := "law.go:35", after := #[{ on := 4, ground := Ground.data }], guard := none }, { dst := some 67, op := Op.call { callee := Callee.value (Operand.func 14), args := #[Operand.tmp 61, Operand.tmp 66], argTypes := #[28, 3] }, type := 22, pos := "law.go:35", after := #[{ on := 0, ground := Ground.data }, { on := 5, ground := Ground.data }], guard := none }, { dst := some 68, op := Op.convert 22 9 (Operand.tmp 67), type := 9, pos := "law.go:35", after := #[{ on := 6, ground := Ground.data }], guard := none }, { dst := some 69, op := Op.move (Operand.tmp 6), type := 30, pos := "law.go:35", after := #[], guard := none }, { dst := some 70, op := Op.move (Operand.tmp 1), type := 27, pos := "law.go:35", after := #[], guard := none }, { dst := some 71, op := Op.move (Operand.tmp 7), type := 3, pos := "law.go:35", after := #[], guard := none }, { dst := some 72, op := Op.indexAddr 27 (Operand.tmp 70) (Operand.tmp 71), type := 0, pos := "law.go:35", after := #[{ on := 9, ground := Ground.data }, { on := 10, ground := Ground.data }], guard := none }, { dst := some 73, op := Op.fieldAddr 34 (Operand.tmp 72) 1, type := 0, pos := "law.go:35", after := #[{ on := 11, ground := Ground.data }], guard := none }, { dst := some 74, op := Op.load 3 (Operand.tmp 73), type := 3, pos := "law.go:35", after := #[{ on := 12, ground := Ground.data }], guard := none }, { dst := some 75, op := Op.call { callee := Callee.value (Operand.func 15), args := #[Operand.tmp 69, Operand.tmp 74], argTypes := #[30, 3] }, type := 22, pos := "law.go:35", after := #[{ on := 8, ground := Ground.data }, { on := 13, ground := Ground.data }, { on := 6, ground := Ground.chain }], guard := none }, { dst := some 76, op := Op.convert 22 9 (Operand.tmp 75), type := 9, pos := "law.go:35", after := #[{ on := 14, ground := Ground.data }], guard := none }, { dst := some 77, op := Op.binOp BinOp.eql 9 (Operand.tmp 68) (Operand.tmp 76) 9, type := 4, pos := "law.go:35", after := #[{ on := 7, ground := Ground.data }, { on := 15, ground := Ground.data }], guard := none }, { dst := some 8, op := Op.assign (Operand.tmp 77), type := 4, pos := "law.go:35", after := #[{ on := 16, ground := Ground.data }, { on := 14, ground := Ground.chain }, { on := 0, ground := Ground.phase }, { on := 1, ground := Ground.phase }, { on := 2, ground := Ground.phase }, { on := 3, ground := Ground.phase }, { on := 4, ground := Ground.phase }, { on := 5, ground := Ground.phase }, { on := 6, ground := Ground.phase }, { on := 7, ground := Ground.phase }, { on := 8, ground := Ground.phase }, { on := 9, ground := Ground.phase }, { on := 10, ground := Ground.phase }, { on := 11, ground := Ground.phase }, { on := 12, ground := Ground.phase }, { on := 13, ground := Ground.phase }, { on := 14, ground := Ground.phase }, { on := 15, ground := Ground.phase }, { on := 16, ground := Ground.phase }], guard := none }] true).wp Try.prog (fun e b v => e = Exit.normal ∧ ∃ u8 u61 u62 u63 u64 u65 u66 u67 u68 u69 u70 u71 u72 u73 u74 u75 u76 u77 : Value, b = ⟨#[t0, .slice (some ⟨bk, off, none⟩) N ca, t2, t3, t4, .pointer (some ⟨g, 0, none⟩), .pointer (some ⟨g2, 0, none⟩), .int .i64 k, u8, t9, t10, t11, t12, t13, t14, t15, t16, t17, t18, t19, t20, t21, t22, t23, t24, t25, t26, t27, t28, t29, t30, t31, t32, t33, t34, t35, t36, t37, t38, t39, t40, t41, t42, t43, t44, t45, t46, t47, t48, t49, t50, t51, t52, t53, t54, t55, t56, t57, t58, t59, t60, u61, u62, u63, u64, u65, u66, u67, u68, u69, u70, u71, u72, u73, u74, u75, u76, u77, t78, t79, t80, t81, t82, t83, t84, t85, t86, t87, t88, t89, t90, t91, t92, t93, t94, t95, t96, t97, t98, t99, t100, t101, t102, t103, t104, t105, t106, t107, t108, t109, t110, t111, t112, t113, t114, t115, t116, t117, t118, t119, t120, t121, t122, t123, t124, t125, t126, t127, t128], []⟩ ∧ Below B0 wr v ∧ (RowAt v u67 B.length (byteV B) ∧ RdAt v g q LL n1 b1) ∧ (RowAt v u75 B.length (byteV B) ∧ RfAt v g2 q2 LL n1 b1) ∧ (u8 = .bool true)) ⟨#[t0, .slice (some ⟨bk, off, none⟩) N ca, t2, t3, t4, .pointer (some ⟨g, 0, none⟩), .pointer (some ⟨g2, 0, none⟩), .int .i64 k, t8, t9, t10, t11, t12, t13, t14, t15, t16, t17, t18, t19, t20, t21, t22, t23, t24, t25, t26, t27, t28, t29, t30, t31, t32, t33, t34, t35, t36, t37, t38, t39, t40, t41, t42, t43, t44, t45, t46, t47, t48, t49, t50, t51, t52, t53, t54, t55, t56, t57, t58, t59, t60, t61, t62, t63, t64, t65, t66, t67, t68, t69, t70, t71, t72, t73, t74, t75, t76, t77, t78, t79, t80, t81, t82, t83, t84, t85, t86, t87, t88, t89, t90, t91, t92, t93, t94, t95, t96, t97, t98, t99, t100, t101, t102, t103, t104, t105, t106, t107, t108, t109, t110, t111, t112, t113, t114, t115, t116, t117, t118, t119, t120, t121, t122, t123, t124, t125, t126, t127, t128], []⟩ wr := by
  refine wp_region_facts (n := 18) (fun L b v => ∃ u8 u61 u62 u63 u64 u65 u66 u67 u68 u69 u70 u71 u72 u73 u74 u75 u76 u77 : Value, b = ⟨#[t0, .slice (some ⟨bk, off, none⟩) N ca, t2, t3, t4, .pointer (some ⟨g, 0, none⟩), .pointer (some ⟨g2, 0, none⟩), .int .i64 k, u8, t9, t10, t11, t12, t13, t14, t15, t16, t17, t18, t19, t20, t21, t22, t23, t24, t25, t26, t27, t28, t29, t30, t31, t32, t33, t34, t35, t36, t37, t38, t39, t40, t41, t42, t43, t44, t45, t46, t47, t48, t49, t50, t51, t52, t53, t54, t55, t56, t57, t58, t59, t60, u61, u62, u63, u64, u65, u66, u67, u68, u69, u70, u71, u72, u73, u74, u75, u76, u77, t78, t79, t80, t81, t82, t83, t84, t85, t86, t87, t88, t89, t90, t91, t92, t93, t94, t95, t96, t97, t98, t99, t100, t101, t102, t103, t104, t105, t106, t107, t108, t109, t110, t111, t112, t113, t114, t115, t116, t117, t118, t119, t120, t121, t122, t123, t124, t125, t126, t127, t128], []⟩ ∧ Below B0 wr v ∧ (L.getD 0 false = true → u61 = .pointer (some ⟨g, 0, none⟩)) ∧ (L.getD 1 false = true → u62 = .slice (some ⟨bk, off, none⟩) N ca) ∧ (L.getD 2 false = true → u63 = .int .i64 k) ∧ (L.getD 3 false = true → u64 = .pointer (some ⟨bk, off + k * 2, none⟩)) ∧ (L.getD 4 false = true → u65 = .pointer (some ⟨bk, off + k * 2 + 1, none⟩)) ∧ (L.getD 5 false = true → u66 = .int .i64 z) ∧ (L.getD 6 false = true → RowAt v u67 B.length (byteV B) ∧ RdAt v g q LL n1 b1) ∧ (L.getD 7 false = true → u68 = .string ⟨B.toArray⟩) ∧ (L.getD 8 false = true → u69 = .pointer (some ⟨g2, 0, none⟩)) ∧ (L.getD 9 false = true → u70 = .slice (some ⟨bk, off, none⟩) N ca) ∧ (L.getD 10 false = true → u71 = .int .i64 k) ∧ (L.getD 11 false = true → u72 = .pointer (some ⟨bk, off + k * 2, none⟩)) ∧ (L.getD 12 false = true → u73 = .pointer (some ⟨bk, off + k * 2 + 1, none⟩)) ∧ (L.getD 13 false = true → u74 = .int .i64 z) ∧ (L.getD 14 false = true → RowAt v u75 B.length (byteV B) ∧ RfAt v g2 q2 LL n1 b1) ∧ (L.getD 15 false = true → u76 = .string ⟨B.toArray⟩) ∧ (L.getD 16 false = true → u77 = .bool true) ∧ (L.getD 17 false = true → u8 = .bool true) ∧ (L.getD 6 false = false → RdAt v g q LL n bd) ∧ (L.getD 14 false = false → RfAt v g2 q2 LL n bd)) (by kernel_rfl) (by kernel_rfl) (by kernel_rfl) ?_ ?_ ?_
  · refine ⟨_, _, _, _, _, _, _, _, _, _, _, _, _, _, _, _, _, _, rfl, (Below.refl _ _).drew, flag_new, flag_new, flag_new, flag_new, flag_new, flag_new, flag_new, flag_new, flag_new, flag_new, flag_new, flag_new, flag_new, flag_new, flag_new, flag_new, flag_new, flag_new, fun _ => (by first | rfl | assumption), fun _ => (by first | rfl | assumption)⟩
  · refine AllSteps.succ (AllSteps.succ (AllSteps.succ (AllSteps.succ (AllSteps.succ (AllSteps.succ (AllSteps.succ (AllSteps.succ (AllSteps.succ (AllSteps.succ (AllSteps.succ (AllSteps.succ (AllSteps.succ (AllSteps.succ (AllSteps.succ (AllSteps.succ (AllSteps.succ (AllSteps.succ AllSteps.zero ?_) ?_) ?_) ?_) ?_) ?_) ?_) ?_) ?_) ?_) ?_) ?_) ?_) ?_) ?_) ?_) ?_) ?_
    · refine StepAt.mk (o := { dst := some 61, op := Op.move (Operand.tmp 5), type := 28, pos := _, after := #[], guard := none }) (ws := []) rfl (by kernel_rfl) ?_
      rintro L b v hC h0 hA ⟨u8, u61, u62, u63, u64, u65, u66, u67, u68, u69, u70, u71, u72, u73, u74, u75, u76, u77, rfl, hHeld, f0, f1, f2, f3, f4, f5, f6, f7, f8, f9, f10, f11, f12, f13, f14, f15, f16, f17, ep, es⟩ K hK
      rw [if_pos (by kernel_rfl)]
      have q0 := cellBd hHeld c1 hbk
      go_simp
      try simp only [Act.put, List.setIfInBounds_toArray, List.set_cons_zero, List.set_cons_succ]
      refine hK.out _ _ ⟨_, _, _, _, _, _, _, _, _, _, _, _, _, _, _, _, _, _, rfl, ?_, ?_, ?_, ?_, ?_, ?_, ?_, ?_, ?_, ?_, ?_, ?_, ?_, ?_, ?_, ?_, ?_, ?_, ?_, ?_, ?_⟩
      · first | exact hHeld | exact hHeld.trans (hb.mono hHeld.size) | (trace_state; fail)
      · intro _; first | rfl | (trace_state; fail)
      · first | exact flag_ne (by decide) f1 | exact fun _ => rfl
      · first | exact flag_ne (by decide) f2 | exact fun _ => rfl
      · first | exact flag_ne (by decide) f3 | exact fun _ => rfl
      · first | exact flag_ne (by decide) f4 | exact fun _ => rfl
      · first | exact flag_ne (by decide) f5 | exact fun _ => rfl
      · intro h; rw [getD_set_ne false (by decide)] at h; exact (getD_no h0 (hC.step (j := 6) (k := 0) h (by kernel_rfl))).elim
      · first | exact flag_ne (by decide) f7 | exact fun _ => rfl
      · first | exact flag_ne (by decide) f8 | exact fun _ => rfl
      · first | exact flag_ne (by decide) f9 | exact fun _ => rfl
      · first | exact flag_ne (by decide) f10 | exact fun _ => rfl
      · first | exact flag_ne (by decide) f11 | exact fun _ => rfl
      · first | exact flag_ne (by decide) f12 | exact fun _ => rfl
      · first | exact flag_ne (by decide) f13 | exact fun _ => rfl
      · intro h; rw [getD_set_ne false (by decide)] at h; exact (getD_no h0 (hC.step (j := 6) (k := 0) (hC.step (j := 14) (k := 6) h (by kernel_rfl)) (by kernel_rfl))).elim
      · first | exact flag_ne (by decide) f15 | exact fun _ => rfl
      · first | exact flag_ne (by decide) f16 | exact fun _ => rfl
      · first | exact flag_ne (by decide) f17 | exact fun _ => rfl
      · intro h; rw [getD_set_ne false (by decide)] at h; have := ep h; first | exact this | exact rd_grown this hG (by simp; omega) (by simp; omega) | (trace_state; fail)
      · intro h; rw [getD_set_ne false (by decide)] at h; have := es h; first | exact this | exact rf_grown this hG (by simp; omega) (by simp; omega) | (trace_state; fail)
    · refine StepAt.mk (o := { dst := some 62, op := Op.move (Operand.tmp 1), type := 27, pos := _, after := #[], guard := none }) (ws := []) rfl (by kernel_rfl) ?_
      rintro L b v hC h0 hA ⟨u8, u61, u62, u63, u64, u65, u66, u67, u68, u69, u70, u71, u72, u73, u74, u75, u76, u77, rfl, hHeld, f0, f1, f2, f3, f4, f5, f6, f7, f8, f9, f10, f11, f12, f13, f14, f15, f16, f17, ep, es⟩ K hK
      rw [if_pos (by kernel_rfl)]
      have q0 := cellBd hHeld c1 hbk
      go_simp
      try simp only [Act.put, List.setIfInBounds_toArray, List.set_cons_zero, List.set_cons_succ]
      refine hK.out _ _ ⟨_, _, _, _, _, _, _, _, _, _, _, _, _, _, _, _, _, _, rfl, ?_, ?_, ?_, ?_, ?_, ?_, ?_, ?_, ?_, ?_, ?_, ?_, ?_, ?_, ?_, ?_, ?_, ?_, ?_, ?_, ?_⟩
      · first | exact hHeld | exact hHeld.trans (hb.mono hHeld.size) | (trace_state; fail)
      · first | exact flag_ne (by decide) f0 | exact fun _ => rfl
      · intro _; first | rfl | (trace_state; fail)
      · first | exact flag_ne (by decide) f2 | exact fun _ => rfl
      · first | exact flag_ne (by decide) f3 | exact fun _ => rfl
      · first | exact flag_ne (by decide) f4 | exact fun _ => rfl
      · first | exact flag_ne (by decide) f5 | exact fun _ => rfl
      · intro h; rw [getD_set_ne false (by decide)] at h; exact (getD_no h0 (hC.step (j := 3) (k := 1) (hC.step (j := 4) (k := 3) (hC.step (j := 5) (k := 4) (hC.step (j := 6) (k := 5) h (by kernel_rfl)) (by kernel_rfl)) (by kernel_rfl)) (by kernel_rfl))).elim
      · first | exact flag_ne (by decide) f7 | exact fun _ => rfl
      · first | exact flag_ne (by decide) f8 | exact fun _ => rfl
      · first | exact flag_ne (by decide) f9 | exact fun _ => rfl
      · first | exact flag_ne (by decide) f10 | exact fun _ => rfl
      · first | exact flag_ne (by decide) f11 | exact fun _ => rfl
      · first | exact flag_ne (by decide) f12 | exact fun _ => rfl
      · first | exact flag_ne (by decide) f13 | exact fun _ => rfl
      · intro h; rw [getD_set_ne false (by decide)] at h; exact (getD_no h0 (hC.step (j := 3) (k := 1) (hC.step (j := 4) (k := 3) (hC.step (j := 5) (k := 4) (hC.step (j := 6) (k := 5) (hC.step (j := 14) (k := 6) h (by kernel_rfl)) (by kernel_rfl)) (by kernel_rfl)) (by kernel_rfl)) (by kernel_rfl))).elim
      · first | exact flag_ne (by decide) f15 | exact fun _ => rfl
      · first | exact flag_ne (by decide) f16 | exact fun _ => rfl
      · first | exact flag_ne (by decide) f17 | exact fun _ => rfl
      · intro h; rw [getD_set_ne false (by decide)] at h; have := ep h; first | exact this | exact rd_grown this hG (by simp; omega) (by simp; omega) | (trace_state; fail)
      · intro h; rw [getD_set_ne false (by decide)] at h; have := es h; first | exact this | exact rf_grown this hG (by simp; omega) (by simp; omega) | (trace_state; fail)
    · refine StepAt.mk (o := { dst := some 63, op := Op.move (Operand.tmp 7), type := 3, pos := _, after := #[], guard := none }) (ws := []) rfl (by kernel_rfl) ?_
      rintro L b v hC h0 hA ⟨u8, u61, u62, u63, u64, u65, u66, u67, u68, u69, u70, u71, u72, u73, u74, u75, u76, u77, rfl, hHeld, f0, f1, f2, f3, f4, f5, f6, f7, f8, f9, f10, f11, f12, f13, f14, f15, f16, f17, ep, es⟩ K hK
      rw [if_pos (by kernel_rfl)]
      have q0 := cellBd hHeld c1 hbk
      go_simp
      try simp only [Act.put, List.setIfInBounds_toArray, List.set_cons_zero, List.set_cons_succ]
      refine hK.out _ _ ⟨_, _, _, _, _, _, _, _, _, _, _, _, _, _, _, _, _, _, rfl, ?_, ?_, ?_, ?_, ?_, ?_, ?_, ?_, ?_, ?_, ?_, ?_, ?_, ?_, ?_, ?_, ?_, ?_, ?_, ?_, ?_⟩
      · first | exact hHeld | exact hHeld.trans (hb.mono hHeld.size) | (trace_state; fail)
      · first | exact flag_ne (by decide) f0 | exact fun _ => rfl
      · first | exact flag_ne (by decide) f1 | exact fun _ => rfl
      · intro _; first | rfl | (trace_state; fail)
      · first | exact flag_ne (by decide) f3 | exact fun _ => rfl
      · first | exact flag_ne (by decide) f4 | exact fun _ => rfl
      · first | exact flag_ne (by decide) f5 | exact fun _ => rfl
      · intro h; rw [getD_set_ne false (by decide)] at h; exact (getD_no h0 (hC.step (j := 3) (k := 2) (hC.step (j := 4) (k := 3) (hC.step (j := 5) (k := 4) (hC.step (j := 6) (k := 5) h (by kernel_rfl)) (by kernel_rfl)) (by kernel_rfl)) (by kernel_rfl))).elim
      · first | exact flag_ne (by decide) f7 | exact fun _ => rfl
      · first | exact flag_ne (by decide) f8 | exact fun _ => rfl
      · first | exact flag_ne (by decide) f9 | exact fun _ => rfl
      · first | exact flag_ne (by decide) f10 | exact fun _ => rfl
      · first | exact flag_ne (by decide) f11 | exact fun _ => rfl
      · first | exact flag_ne (by decide) f12 | exact fun _ => rfl
      · first | exact flag_ne (by decide) f13 | exact fun _ => rfl
      · intro h; rw [getD_set_ne false (by decide)] at h; exact (getD_no h0 (hC.step (j := 3) (k := 2) (hC.step (j := 4) (k := 3) (hC.step (j := 5) (k := 4) (hC.step (j := 6) (k := 5) (hC.step (j := 14) (k := 6) h (by kernel_rfl)) (by kernel_rfl)) (by kernel_rfl)) (by kernel_rfl)) (by kernel_rfl))).elim
      · first | exact flag_ne (by decide) f15 | exact fun _ => rfl
      · first | exact flag_ne (by decide) f16 | exact fun _ => rfl
      · first | exact flag_ne (by decide) f17 | exact fun _ => rfl
      · intro h; rw [getD_set_ne false (by decide)] at h; have := ep h; first | exact this | exact rd_grown this hG (by simp; omega) (by simp; omega) | (trace_state; fail)
      · intro h; rw [getD_set_ne false (by decide)] at h; have := es h; first | exact this | exact rf_grown this hG (by simp; omega) (by simp; omega) | (trace_state; fail)
    · refine StepAt.mk (o := { dst := some 64, op := Op.indexAddr 27 (Operand.tmp 62) (Operand.tmp 63), type := 0, pos := _, after := #[{ on := 1, ground := Ground.data }, { on := 2, ground := Ground.data }], guard := none }) (ws := [1, 2]) rfl (by kernel_rfl) ?_
      rintro L b v hC h0 hA ⟨u8, u61, u62, u63, u64, u65, u66, u67, u68, u69, u70, u71, u72, u73, u74, u75, u76, u77, rfl, hHeld, f0, f1, f2, f3, f4, f5, f6, f7, f8, f9, f10, f11, f12, f13, f14, f15, f16, f17, ep, es⟩ K hK
      have g1 := f1 (hA 1 (by simp))
      obtain rfl := g1
      have g2 := f2 (hA 2 (by simp))
      obtain rfl := g2
      rw [if_pos (by kernel_rfl)]
      have q0 := cellBd hHeld c1 hbk
      go_simp
      try simp only [Act.put, List.setIfInBounds_toArray, List.set_cons_zero, List.set_cons_succ]
      refine hK.out _ _ ⟨_, _, _, _, _, _, _, _, _, _, _, _, _, _, _, _, _, _, rfl, ?_, ?_, ?_, ?_, ?_, ?_, ?_, ?_, ?_, ?_, ?_, ?_, ?_, ?_, ?_, ?_, ?_, ?_, ?_, ?_, ?_⟩
      · first | exact hHeld | exact hHeld.trans (hb.mono hHeld.size) | (trace_state; fail)
      · first | exact flag_ne (by decide) f0 | exact fun _ => rfl
      · first | exact flag_ne (by decide) f1 | exact fun _ => rfl
      · first | exact flag_ne (by decide) f2 | exact fun _ => rfl
      · intro _; first | rfl | (trace_state; fail)
      · first | exact flag_ne (by decide) f4 | exact fun _ => rfl
      · first | exact flag_ne (by decide) f5 | exact fun _ => rfl
      · intro h; rw [getD_set_ne false (by decide)] at h; exact (getD_no h0 (hC.step (j := 4) (k := 3) (hC.step (j := 5) (k := 4) (hC.step (j := 6) (k := 5) h (by kernel_rfl)) (by kernel_rfl)) (by kernel_rfl))).elim
      · first | exact flag_ne (by decide) f7 | exact fun _ => rfl
      · first | exact flag_ne (by decide) f8 | exact fun _ => rfl
      · first | exact flag_ne (by decide) f9 | exact fun _ => rfl
      · first | exact flag_ne (by decide) f10 | exact fun _ => rfl
      · first | exact flag_ne (by decide) f11 | exact fun _ => rfl
      · first | exact flag_ne (by decide) f12 | exact fun _ => rfl
      · first | exact flag_ne (by decide) f13 | exact fun _ => rfl
      · intro h; rw [getD_set_ne false (by decide)] at h; exact (getD_no h0 (hC.step (j := 4) (k := 3) (hC.step (j := 5) (k := 4) (hC.step (j := 6) (k := 5) (hC.step (j := 14) (k := 6) h (by kernel_rfl)) (by kernel_rfl)) (by kernel_rfl)) (by kernel_rfl))).elim
      · first | exact flag_ne (by decide) f15 | exact fun _ => rfl
      · first | exact flag_ne (by decide) f16 | exact fun _ => rfl
      · first | exact flag_ne (by decide) f17 | exact fun _ => rfl
      · intro h; rw [getD_set_ne false (by decide)] at h; have := ep h; first | exact this | exact rd_grown this hG (by simp; omega) (by simp; omega) | (trace_state; fail)
      · intro h; rw [getD_set_ne false (by decide)] at h; have := es h; first | exact this | exact rf_grown this hG (by simp; omega) (by simp; omega) | (trace_state; fail)
    · refine StepAt.mk (o := { dst := some 65, op := Op.fieldAddr 34 (Operand.tmp 64) 1, type := 0, pos := _, after := #[{ on := 3, ground := Ground.data }], guard := none }) (ws := [3]) rfl (by kernel_rfl) ?_
      rintro L b v hC h0 hA ⟨u8, u61, u62, u63, u64, u65, u66, u67, u68, u69, u70, u71, u72, u73, u74, u75, u76, u77, rfl, hHeld, f0, f1, f2, f3, f4, f5, f6, f7, f8, f9, f10, f11, f12, f13, f14, f15, f16, f17, ep, es⟩ K hK
      have g3 := f3 (hA 3 (by simp))
      obtain rfl := g3
      rw [if_pos (by kernel_rfl)]
      have q0 := cellBd hHeld c1 hbk
      go_simp
      try simp only [Act.put, List.setIfInBounds_toArray, List.set_cons_zero, List.set_cons_succ]
      refine hK.out _ _ ⟨_, _, _, _, _, _, _, _, _, _, _, _, _, _, _, _, _, _, rfl, ?_, ?_, ?_, ?_, ?_, ?_, ?_, ?_, ?_, ?_, ?_, ?_, ?_, ?_, ?_, ?_, ?_, ?_, ?_, ?_, ?_⟩
      · first | exact hHeld | exact hHeld.trans (hb.mono hHeld.size) | (trace_state; fail)
      · first | exact flag_ne (by decide) f0 | exact fun _ => rfl
      · first | exact flag_ne (by decide) f1 | exact fun _ => rfl
      · first | exact flag_ne (by decide) f2 | exact fun _ => rfl
      · first | exact flag_ne (by decide) f3 | exact fun _ => rfl
      · intro _; first | rfl | (trace_state; fail)
      · first | exact flag_ne (by decide) f5 | exact fun _ => rfl
      · intro h; rw [getD_set_ne false (by decide)] at h; exact (getD_no h0 (hC.step (j := 5) (k := 4) (hC.step (j := 6) (k := 5) h (by kernel_rfl)) (by kernel_rfl))).elim
      · first | exact flag_ne (by decide) f7 | exact fun _ => rfl
      · first | exact flag_ne (by decide) f8 | exact fun _ => rfl
      · first | exact flag_ne (by decide) f9 | exact fun _ => rfl
      · first | exact flag_ne (by decide) f10 | exact fun _ => rfl
      · first | exact flag_ne (by decide) f11 | exact fun _ => rfl
      · first | exact flag_ne (by decide) f12 | exact fun _ => rfl
      · first | exact flag_ne (by decide) f13 | exact fun _ => rfl
      · intro h; rw [getD_set_ne false (by decide)] at h; exact (getD_no h0 (hC.step (j := 5) (k := 4) (hC.step (j := 6) (k := 5) (hC.step (j := 14) (k := 6) h (by kernel_rfl)) (by kernel_rfl)) (by kernel_rfl))).elim
      · first | exact flag_ne (by decide) f15 | exact fun _ => rfl
      · first | exact flag_ne (by decide) f16 | exact fun _ => rfl
      · first | exact flag_ne (by decide) f17 | exact fun _ => rfl
      · intro h; rw [getD_set_ne false (by decide)] at h; have := ep h; first | exact this | exact rd_grown this hG (by simp; omega) (by simp; omega) | (trace_state; fail)
      · intro h; rw [getD_set_ne false (by decide)] at h; have := es h; first | exact this | exact rf_grown this hG (by simp; omega) (by simp; omega) | (trace_state; fail)
    · refine StepAt.mk (o := { dst := some 66, op := Op.load 3 (Operand.tmp 65), type := 3, pos := _, after := #[{ on := 4, ground := Ground.data }], guard := none }) (ws := [4]) rfl (by kernel_rfl) ?_
      rintro L b v hC h0 hA ⟨u8, u61, u62, u63, u64, u65, u66, u67, u68, u69, u70, u71, u72, u73, u74, u75, u76, u77, rfl, hHeld, f0, f1, f2, f3, f4, f5, f6, f7, f8, f9, f10, f11, f12, f13, f14, f15, f16, f17, ep, es⟩ K hK
      have g4 := f4 (hA 4 (by simp))
      obtain rfl := g4
      rw [if_pos (by kernel_rfl)]
      have q0 := cellBd hHeld c1 hbk
      go_simp
      try simp only [Act.put, List.setIfInBounds_toArray, List.set_cons_zero, List.set_cons_succ]
      refine hK.out _ _ ⟨_, _, _, _, _, _, _, _, _, _, _, _, _, _, _, _, _, _, rfl, ?_, ?_, ?_, ?_, ?_, ?_, ?_, ?_, ?_, ?_, ?_, ?_, ?_, ?_, ?_, ?_, ?_, ?_, ?_, ?_, ?_⟩
      · first | exact hHeld | exact hHeld.trans (hb.mono hHeld.size) | (trace_state; fail)
      · first | exact flag_ne (by decide) f0 | exact fun _ => rfl
      · first | exact flag_ne (by decide) f1 | exact fun _ => rfl
      · first | exact flag_ne (by decide) f2 | exact fun _ => rfl
      · first | exact flag_ne (by decide) f3 | exact fun _ => rfl
      · first | exact flag_ne (by decide) f4 | exact fun _ => rfl
      · intro _; first | rfl | (trace_state; fail)
      · intro h; rw [getD_set_ne false (by decide)] at h; exact (getD_no h0 (hC.step (j := 6) (k := 5) h (by kernel_rfl))).elim
      · first | exact flag_ne (by decide) f7 | exact fun _ => rfl
      · first | exact flag_ne (by decide) f8 | exact fun _ => rfl
      · first | exact flag_ne (by decide) f9 | exact fun _ => rfl
      · first | exact flag_ne (by decide) f10 | exact fun _ => rfl
      · first | exact flag_ne (by decide) f11 | exact fun _ => rfl
      · first | exact flag_ne (by decide) f12 | exact fun _ => rfl
      · first | exact flag_ne (by decide) f13 | exact fun _ => rfl
      · intro h; rw [getD_set_ne false (by decide)] at h; exact (getD_no h0 (hC.step (j := 6) (k := 5) (hC.step (j := 14) (k := 6) h (by kernel_rfl)) (by kernel_rfl))).elim
      · first | exact flag_ne (by decide) f15 | exact fun _ => rfl
      · first | exact flag_ne (by decide) f16 | exact fun _ => rfl
      · first | exact flag_ne (by decide) f17 | exact fun _ => rfl
      · intro h; rw [getD_set_ne false (by decide)] at h; have := ep h; first | exact this | exact rd_grown this hG (by simp; omega) (by simp; omega) | (trace_state; fail)
      · intro h; rw [getD_set_ne false (by decide)] at h; have := es h; first | exact this | exact rf_grown this hG (by simp; omega) (by simp; omega) | (trace_state; fail)
    · refine StepAt.mk (o := { dst := some 67, op := Op.call { callee := Callee.value (Operand.func 14), args := #[Operand.tmp 61, Operand.tmp 66], argTypes := #[28, 3] }, type := 22, pos := _, after := #[{ on := 0, ground := Ground.data }, { on := 5, ground := Ground.data }], guard := none }) (ws := [0, 5]) rfl (by kernel_rfl) ?_
      rintro L b v hC h0 hA ⟨u8, u61, u62, u63, u64, u65, u66, u67, u68, u69, u70, u71, u72, u73, u74, u75, u76, u77, rfl, hHeld, f0, f1, f2, f3, f4, f5, f6, f7, f8, f9, f10, f11, f12, f13, f14, f15, f16, f17, ep, es⟩ K hK
      have g0 := f0 (hA 0 (by simp))
      obtain rfl := g0
      have g5 := f5 (hA 5 (by simp))
      obtain rfl := g5
      have dp := ep (getD_open h0)
      rw [if_pos (by kernel_rfl)]
      have q0 := cellBd hHeld c1 hbk
      go_simp
      refine (HP.out v dp).mono ?_; rintro e v1 ⟨r, rfl, hr, hR1, hG⟩
      go_wp2_with fail
      try simp only [Act.put, List.setIfInBounds_toArray, List.set_cons_zero, List.set_cons_succ]
      refine hK.out _ _ ⟨_, _, _, _, _, _, _, _, _, _, _, _, _, _, _, _, _, _, rfl, ?_, ?_, ?_, ?_, ?_, ?_, ?_, ?_, ?_, ?_, ?_, ?_, ?_, ?_, ?_, ?_, ?_, ?_, ?_, ?_, ?_⟩
      · exact grownBelow hHeld hG hB.1 (Nat.le_trans hB0 hHeld.size)
      · first | exact flag_ne (by decide) f0 | exact fun _ => rfl
      · first | exact flag_ne (by decide) f1 | exact fun _ => rfl
      · first | exact flag_ne (by decide) f2 | exact fun _ => rfl
      · first | exact flag_ne (by decide) f3 | exact fun _ => rfl
      · first | exact flag_ne (by decide) f4 | exact fun _ => rfl
      · first | exact flag_ne (by decide) f5 | exact fun _ => rfl
      · intro _; first | exact ⟨hr, hR1⟩ | (trace_state; fail)
      · first | exact flag_ne (by decide) f7 | exact fun _ => rfl
      · first | exact flag_ne (by decide) f8 | exact fun _ => rfl
      · first | exact flag_ne (by decide) f9 | exact fun _ => rfl
      · first | exact flag_ne (by decide) f10 | exact fun _ => rfl
      · first | exact flag_ne (by decide) f11 | exact fun _ => rfl
      · first | exact flag_ne (by decide) f12 | exact fun _ => rfl
      · first | exact flag_ne (by decide) f13 | exact fun _ => rfl
      · intro h; rw [getD_set_ne false (by decide)] at h; exact (getD_no h0 (hC.step (j := 14) (k := 6) h (by kernel_rfl))).elim
      · first | exact flag_ne (by decide) f15 | exact fun _ => rfl
      · first | exact flag_ne (by decide) f16 | exact fun _ => rfl
      · first | exact flag_ne (by decide) f17 | exact fun _ => rfl
      · intro h; rw [getD_set_done h0] at h; cases h
      · intro h; rw [getD_set_ne false (by decide)] at h; have := es h; first | exact this | exact rf_grown this hG (by simp; omega) (by simp; omega) | (trace_state; fail)
    · refine StepAt.mk (o := { dst := some 68, op := Op.convert 22 9 (Operand.tmp 67), type := 9, pos := _, after := #[{ on := 6, ground := Ground.data }], guard := none }) (ws := [6]) rfl (by kernel_rfl) ?_
      rintro L b v hC h0 hA ⟨u8, u61, u62, u63, u64, u65, u66, u67, u68, u69, u70, u71, u72, u73, u74, u75, u76, u77, rfl, hHeld, f0, f1, f2, f3, f4, f5, f6, f7, f8, f9, f10, f11, f12, f13, f14, f15, f16, f17, ep, es⟩ K hK
      have g6 := f6 (hA 6 (by simp))
      obtain ⟨H6, H6b⟩ := g6
      have hcv := conv_row (P := Try.prog) (src := 22) (dst := 9) (e := 5) Try.underlying22 Try.underlying5 Try.underlying9 H6
      rw [if_pos (by kernel_rfl)]
      have q0 := cellBd hHeld c1 hbk
      go_simp
      try simp only [Act.put, List.setIfInBounds_toArray, List.set_cons_zero, List.set_cons_succ]
      refine hK.out _ _ ⟨_, _, _, _, _, _, _, _, _, _, _, _, _, _, _, _, _, _, rfl, ?_, ?_, ?_, ?_, ?_, ?_, ?_, ?_, ?_, ?_, ?_, ?_, ?_, ?_, ?_, ?_, ?_, ?_, ?_, ?_, ?_⟩
      · first | exact hHeld | exact hHeld.trans (hb.mono hHeld.size) | (trace_state; fail)
      · first | exact flag_ne (by decide) f0 | exact fun _ => rfl
      · first | exact flag_ne (by decide) f1 | exact fun _ => rfl
      · first | exact flag_ne (by decide) f2 | exact fun _ => rfl
      · first | exact flag_ne (by decide) f3 | exact fun _ => rfl
      · first | exact flag_ne (by decide) f4 | exact fun _ => rfl
      · first | exact flag_ne (by decide) f5 | exact fun _ => rfl
      · intro h; rw [getD_set_ne false (by decide)] at h; have := f6 h; obtain ⟨e1, e2⟩ := this; exact (by first | exact ⟨e1, e2⟩ | exact ⟨row_rf e1 ds hG, rd_grown e2 hG (by simp; omega) (by simp; omega)⟩ | (trace_state; fail))
      · intro _; first | rfl | (trace_state; fail)
      · first | exact flag_ne (by decide) f8 | exact fun _ => rfl
      · first | exact flag_ne (by decide) f9 | exact fun _ => rfl
      · first | exact flag_ne (by decide) f10 | exact fun _ => rfl
      · first | exact flag_ne (by decide) f11 | exact fun _ => rfl
      · first | exact flag_ne (by decide) f12 | exact fun _ => rfl
      · first | exact flag_ne (by decide) f13 | exact fun _ => rfl
      · intro h; rw [getD_set_ne false (by decide)] at h; have := f14 h; obtain ⟨e1, e2⟩ := this; exact (by first | exact ⟨e1, e2⟩ | exact ⟨row_rd e1 dp hG, rf_grown e2 hG (by simp; omega) (by simp; omega)⟩ | (trace_state; fail))
      · first | exact flag_ne (by decide) f15 | exact fun _ => rfl
      · first | exact flag_ne (by decide) f16 | exact fun _ => rfl
      · first | exact flag_ne (by decide) f17 | exact fun _ => rfl
      · intro h; rw [getD_set_ne false (by decide)] at h; have := ep h; first | exact this | exact rd_grown this hG (by simp; omega) (by simp; omega) | (trace_state; fail)
      · intro h; rw [getD_set_ne false (by decide)] at h; have := es h; first | exact this | exact rf_grown this hG (by simp; omega) (by simp; omega) | (trace_state; fail)
    · refine StepAt.mk (o := { dst := some 69, op := Op.move (Operand.tmp 6), type := 30, pos := _, after := #[], guard := none }) (ws := []) rfl (by kernel_rfl) ?_
      rintro L b v hC h0 hA ⟨u8, u61, u62, u63, u64, u65, u66, u67, u68, u69, u70, u71, u72, u73, u74, u75, u76, u77, rfl, hHeld, f0, f1, f2, f3, f4, f5, f6, f7, f8, f9, f10, f11, f12, f13, f14, f15, f16, f17, ep, es⟩ K hK
      rw [if_pos (by kernel_rfl)]
      have q0 := cellBd hHeld c1 hbk
      go_simp
      try simp only [Act.put, List.setIfInBounds_toArray, List.set_cons_zero, List.set_cons_succ]
      refine hK.out _ _ ⟨_, _, _, _, _, _, _, _, _, _, _, _, _, _, _, _, _, _, rfl, ?_, ?_, ?_, ?_, ?_, ?_, ?_, ?_, ?_, ?_, ?_, ?_, ?_, ?_, ?_, ?_, ?_, ?_, ?_, ?_, ?_⟩
      · first | exact hHeld | exact hHeld.trans (hb.mono hHeld.size) | (trace_state; fail)
      · first | exact flag_ne (by decide) f0 | exact fun _ => rfl
      · first | exact flag_ne (by decide) f1 | exact fun _ => rfl
      · first | exact flag_ne (by decide) f2 | exact fun _ => rfl
      · first | exact flag_ne (by decide) f3 | exact fun _ => rfl
      · first | exact flag_ne (by decide) f4 | exact fun _ => rfl
      · first | exact flag_ne (by decide) f5 | exact fun _ => rfl
      · intro h; rw [getD_set_ne false (by decide)] at h; have := f6 h; obtain ⟨e1, e2⟩ := this; exact (by first | exact ⟨e1, e2⟩ | exact ⟨row_rf e1 ds hG, rd_grown e2 hG (by simp; omega) (by simp; omega)⟩ | (trace_state; fail))
      · first | exact flag_ne (by decide) f7 | exact fun _ => rfl
      · intro _; first | rfl | (trace_state; fail)
      · first | exact flag_ne (by decide) f9 | exact fun _ => rfl
      · first | exact flag_ne (by decide) f10 | exact fun _ => rfl
      · first | exact flag_ne (by decide) f11 | exact fun _ => rfl
      · first | exact flag_ne (by decide) f12 | exact fun _ => rfl
      · first | exact flag_ne (by decide) f13 | exact fun _ => rfl
      · intro h; rw [getD_set_ne false (by decide)] at h; exact (getD_no h0 (hC.step (j := 14) (k := 8) h (by kernel_rfl))).elim
      · first | exact flag_ne (by decide) f15 | exact fun _ => rfl
      · first | exact flag_ne (by decide) f16 | exact fun _ => rfl
      · first | exact flag_ne (by decide) f17 | exact fun _ => rfl
      · intro h; rw [getD_set_ne false (by decide)] at h; have := ep h; first | exact this | exact rd_grown this hG (by simp; omega) (by simp; omega) | (trace_state; fail)
      · intro h; rw [getD_set_ne false (by decide)] at h; have := es h; first | exact this | exact rf_grown this hG (by simp; omega) (by simp; omega) | (trace_state; fail)
    · refine StepAt.mk (o := { dst := some 70, op := Op.move (Operand.tmp 1), type := 27, pos := _, after := #[], guard := none }) (ws := []) rfl (by kernel_rfl) ?_
      rintro L b v hC h0 hA ⟨u8, u61, u62, u63, u64, u65, u66, u67, u68, u69, u70, u71, u72, u73, u74, u75, u76, u77, rfl, hHeld, f0, f1, f2, f3, f4, f5, f6, f7, f8, f9, f10, f11, f12, f13, f14, f15, f16, f17, ep, es⟩ K hK
      rw [if_pos (by kernel_rfl)]
      have q0 := cellBd hHeld c1 hbk
      go_simp
      try simp only [Act.put, List.setIfInBounds_toArray, List.set_cons_zero, List.set_cons_succ]
      refine hK.out _ _ ⟨_, _, _, _, _, _, _, _, _, _, _, _, _, _, _, _, _, _, rfl, ?_, ?_, ?_, ?_, ?_, ?_, ?_, ?_, ?_, ?_, ?_, ?_, ?_, ?_, ?_, ?_, ?_, ?_, ?_, ?_, ?_⟩
      · first | exact hHeld | exact hHeld.trans (hb.mono hHeld.size) | (trace_state; fail)
      · first | exact flag_ne (by decide) f0 | exact fun _ => rfl
      · first | exact flag_ne (by decide) f1 | exact fun _ => rfl
      · first | exact flag_ne (by decide) f2 | exact fun _ => rfl
      · first | exact flag_ne (by decide) f3 | exact fun _ => rfl
      · first | exact flag_ne (by decide) f4 | exact fun _ => rfl
      · first | exact flag_ne (by decide) f5 | exact fun _ => rfl
      · intro h; rw [getD_set_ne false (by decide)] at h; have := f6 h; obtain ⟨e1, e2⟩ := this; exact (by first | exact ⟨e1, e2⟩ | exact ⟨row_rf e1 ds hG, rd_grown e2 hG (by simp; omega) (by simp; omega)⟩ | (trace_state; fail))
      · first | exact flag_ne (by decide) f7 | exact fun _ => rfl
      · first | exact flag_ne (by decide) f8 | exact fun _ => rfl
      · intro _; first | rfl | (trace_state; fail)
      · first | exact flag_ne (by decide) f10 | exact fun _ => rfl
      · first | exact flag_ne (by decide) f11 | exact fun _ => rfl
      · first | exact flag_ne (by decide) f12 | exact fun _ => rfl
      · first | exact flag_ne (by decide) f13 | exact fun _ => rfl
      · intro h; rw [getD_set_ne false (by decide)] at h; exact (getD_no h0 (hC.step (j := 11) (k := 9) (hC.step (j := 12) (k := 11) (hC.step (j := 13) (k := 12) (hC.step (j := 14) (k := 13) h (by kernel_rfl)) (by kernel_rfl)) (by kernel_rfl)) (by kernel_rfl))).elim
      · first | exact flag_ne (by decide) f15 | exact fun _ => rfl
      · first | exact flag_ne (by decide) f16 | exact fun _ => rfl
      · first | exact flag_ne (by decide) f17 | exact fun _ => rfl
      · intro h; rw [getD_set_ne false (by decide)] at h; have := ep h; first | exact this | exact rd_grown this hG (by simp; omega) (by simp; omega) | (trace_state; fail)
      · intro h; rw [getD_set_ne false (by decide)] at h; have := es h; first | exact this | exact rf_grown this hG (by simp; omega) (by simp; omega) | (trace_state; fail)
    · refine StepAt.mk (o := { dst := some 71, op := Op.move (Operand.tmp 7), type := 3, pos := _, after := #[], guard := none }) (ws := []) rfl (by kernel_rfl) ?_
      rintro L b v hC h0 hA ⟨u8, u61, u62, u63, u64, u65, u66, u67, u68, u69, u70, u71, u72, u73, u74, u75, u76, u77, rfl, hHeld, f0, f1, f2, f3, f4, f5, f6, f7, f8, f9, f10, f11, f12, f13, f14, f15, f16, f17, ep, es⟩ K hK
      rw [if_pos (by kernel_rfl)]
      have q0 := cellBd hHeld c1 hbk
      go_simp
      try simp only [Act.put, List.setIfInBounds_toArray, List.set_cons_zero, List.set_cons_succ]
      refine hK.out _ _ ⟨_, _, _, _, _, _, _, _, _, _, _, _, _, _, _, _, _, _, rfl, ?_, ?_, ?_, ?_, ?_, ?_, ?_, ?_, ?_, ?_, ?_, ?_, ?_, ?_, ?_, ?_, ?_, ?_, ?_, ?_, ?_⟩
      · first | exact hHeld | exact hHeld.trans (hb.mono hHeld.size) | (trace_state; fail)
      · first | exact flag_ne (by decide) f0 | exact fun _ => rfl
      · first | exact flag_ne (by decide) f1 | exact fun _ => rfl
      · first | exact flag_ne (by decide) f2 | exact fun _ => rfl
      · first | exact flag_ne (by decide) f3 | exact fun _ => rfl
      · first | exact flag_ne (by decide) f4 | exact fun _ => rfl
      · first | exact flag_ne (by decide) f5 | exact fun _ => rfl
      · intro h; rw [getD_set_ne false (by decide)] at h; have := f6 h; obtain ⟨e1, e2⟩ := this; exact (by first | exact ⟨e1, e2⟩ | exact ⟨row_rf e1 ds hG, rd_grown e2 hG (by simp; omega) (by simp; omega)⟩ | (trace_state; fail))
      · first | exact flag_ne (by decide) f7 | exact fun _ => rfl
      · first | exact flag_ne (by decide) f8 | exact fun _ => rfl
      · first | exact flag_ne (by decide) f9 | exact fun _ => rfl
      · intro _; first | rfl | (trace_state; fail)
      · first | exact flag_ne (by decide) f11 | exact fun _ => rfl
      · first | exact flag_ne (by decide) f12 | exact fun _ => rfl
      · first | exact flag_ne (by decide) f13 | exact fun _ => rfl
      · intro h; rw [getD_set_ne false (by decide)] at h; exact (getD_no h0 (hC.step (j := 11) (k := 10) (hC.step (j := 12) (k := 11) (hC.step (j := 13) (k := 12) (hC.step (j := 14) (k := 13) h (by kernel_rfl)) (by kernel_rfl)) (by kernel_rfl)) (by kernel_rfl))).elim
      · first | exact flag_ne (by decide) f15 | exact fun _ => rfl
      · first | exact flag_ne (by decide) f16 | exact fun _ => rfl
      · first | exact flag_ne (by decide) f17 | exact fun _ => rfl
      · intro h; rw [getD_set_ne false (by decide)] at h; have := ep h; first | exact this | exact rd_grown this hG (by simp; omega) (by simp; omega) | (trace_state; fail)
      · intro h; rw [getD_set_ne false (by decide)] at h; have := es h; first | exact this | exact rf_grown this hG (by simp; omega) (by simp; omega) | (trace_state; fail)
    · refine StepAt.mk (o := { dst := some 72, op := Op.indexAddr 27 (Operand.tmp 70) (Operand.tmp 71), type := 0, pos := _, after := #[{ on := 9, ground := Ground.data }, { on := 10, ground := Ground.data }], guard := none }) (ws := [9, 10]) rfl (by kernel_rfl) ?_
      rintro L b v hC h0 hA ⟨u8, u61, u62, u63, u64, u65, u66, u67, u68, u69, u70, u71, u72, u73, u74, u75, u76, u77, rfl, hHeld, f0, f1, f2, f3, f4, f5, f6, f7, f8, f9, f10, f11, f12, f13, f14, f15, f16, f17, ep, es⟩ K hK
      have g9 := f9 (hA 9 (by simp))
      obtain rfl := g9
      have g10 := f10 (hA 10 (by simp))
      obtain rfl := g10
      rw [if_pos (by kernel_rfl)]
      have q0 := cellBd hHeld c1 hbk
      go_simp
      try simp only [Act.put, List.setIfInBounds_toArray, List.set_cons_zero, List.set_cons_succ]
      refine hK.out _ _ ⟨_, _, _, _, _, _, _, _, _, _, _, _, _, _, _, _, _, _, rfl, ?_, ?_, ?_, ?_, ?_, ?_, ?_, ?_, ?_, ?_, ?_, ?_, ?_, ?_, ?_, ?_, ?_, ?_, ?_, ?_, ?_⟩
      · first | exact hHeld | exact hHeld.trans (hb.mono hHeld.size) | (trace_state; fail)
      · first | exact flag_ne (by decide) f0 | exact fun _ => rfl
      · first | exact flag_ne (by decide) f1 | exact fun _ => rfl
      · first | exact flag_ne (by decide) f2 | exact fun _ => rfl
      · first | exact flag_ne (by decide) f3 | exact fun _ => rfl
      · first | exact flag_ne (by decide) f4 | exact fun _ => rfl
      · first | exact flag_ne (by decide) f5 | exact fun _ => rfl
      · intro h; rw [getD_set_ne false (by decide)] at h; have := f6 h; obtain ⟨e1, e2⟩ := this; exact (by first | exact ⟨e1, e2⟩ | exact ⟨row_rf e1 ds hG, rd_grown e2 hG (by simp; omega) (by simp; omega)⟩ | (trace_state; fail))
      · first | exact flag_ne (by decide) f7 | exact fun _ => rfl
      · first | exact flag_ne (by decide) f8 | exact fun _ => rfl
      · first | exact flag_ne (by decide) f9 | exact fun _ => rfl
      · first | exact flag_ne (by decide) f10 | exact fun _ => rfl
      · intro _; first | rfl | (trace_state; fail)
      · first | exact flag_ne (by decide) f12 | exact fun _ => rfl
      · first | exact flag_ne (by decide) f13 | exact fun _ => rfl
      · intro h; rw [getD_set_ne false (by decide)] at h; exact (getD_no h0 (hC.step (j := 12) (k := 11) (hC.step (j := 13) (k := 12) (hC.step (j := 14) (k := 13) h (by kernel_rfl)) (by kernel_rfl)) (by kernel_rfl))).elim
      · first | exact flag_ne (by decide) f15 | exact fun _ => rfl
      · first | exact flag_ne (by decide) f16 | exact fun _ => rfl
      · first | exact flag_ne (by decide) f17 | exact fun _ => rfl
      · intro h; rw [getD_set_ne false (by decide)] at h; have := ep h; first | exact this | exact rd_grown this hG (by simp; omega) (by simp; omega) | (trace_state; fail)
      · intro h; rw [getD_set_ne false (by decide)] at h; have := es h; first | exact this | exact rf_grown this hG (by simp; omega) (by simp; omega) | (trace_state; fail)
    · refine StepAt.mk (o := { dst := some 73, op := Op.fieldAddr 34 (Operand.tmp 72) 1, type := 0, pos := _, after := #[{ on := 11, ground := Ground.data }], guard := none }) (ws := [11]) rfl (by kernel_rfl) ?_
      rintro L b v hC h0 hA ⟨u8, u61, u62, u63, u64, u65, u66, u67, u68, u69, u70, u71, u72, u73, u74, u75, u76, u77, rfl, hHeld, f0, f1, f2, f3, f4, f5, f6, f7, f8, f9, f10, f11, f12, f13, f14, f15, f16, f17, ep, es⟩ K hK
      have g11 := f11 (hA 11 (by simp))
      obtain rfl := g11
      rw [if_pos (by kernel_rfl)]
      have q0 := cellBd hHeld c1 hbk
      go_simp
      try simp only [Act.put, List.setIfInBounds_toArray, List.set_cons_zero, List.set_cons_succ]
      refine hK.out _ _ ⟨_, _, _, _, _, _, _, _, _, _, _, _, _, _, _, _, _, _, rfl, ?_, ?_, ?_, ?_, ?_, ?_, ?_, ?_, ?_, ?_, ?_, ?_, ?_, ?_, ?_, ?_, ?_, ?_, ?_, ?_, ?_⟩
      · first | exact hHeld | exact hHeld.trans (hb.mono hHeld.size) | (trace_state; fail)
      · first | exact flag_ne (by decide) f0 | exact fun _ => rfl
      · first | exact flag_ne (by decide) f1 | exact fun _ => rfl
      · first | exact flag_ne (by decide) f2 | exact fun _ => rfl
      · first | exact flag_ne (by decide) f3 | exact fun _ => rfl
      · first | exact flag_ne (by decide) f4 | exact fun _ => rfl
      · first | exact flag_ne (by decide) f5 | exact fun _ => rfl
      · intro h; rw [getD_set_ne false (by decide)] at h; have := f6 h; obtain ⟨e1, e2⟩ := this; exact (by first | exact ⟨e1, e2⟩ | exact ⟨row_rf e1 ds hG, rd_grown e2 hG (by simp; omega) (by simp; omega)⟩ | (trace_state; fail))
      · first | exact flag_ne (by decide) f7 | exact fun _ => rfl
      · first | exact flag_ne (by decide) f8 | exact fun _ => rfl
      · first | exact flag_ne (by decide) f9 | exact fun _ => rfl
      · first | exact flag_ne (by decide) f10 | exact fun _ => rfl
      · first | exact flag_ne (by decide) f11 | exact fun _ => rfl
      · intro _; first | rfl | (trace_state; fail)
      · first | exact flag_ne (by decide) f13 | exact fun _ => rfl
      · intro h; rw [getD_set_ne false (by decide)] at h; exact (getD_no h0 (hC.step (j := 13) (k := 12) (hC.step (j := 14) (k := 13) h (by kernel_rfl)) (by kernel_rfl))).elim
      · first | exact flag_ne (by decide) f15 | exact fun _ => rfl
      · first | exact flag_ne (by decide) f16 | exact fun _ => rfl
      · first | exact flag_ne (by decide) f17 | exact fun _ => rfl
      · intro h; rw [getD_set_ne false (by decide)] at h; have := ep h; first | exact this | exact rd_grown this hG (by simp; omega) (by simp; omega) | (trace_state; fail)
      · intro h; rw [getD_set_ne false (by decide)] at h; have := es h; first | exact this | exact rf_grown this hG (by simp; omega) (by simp; omega) | (trace_state; fail)
    · refine StepAt.mk (o := { dst := some 74, op := Op.load 3 (Operand.tmp 73), type := 3, pos := _, after := #[{ on := 12, ground := Ground.data }], guard := none }) (ws := [12]) rfl (by kernel_rfl) ?_
      rintro L b v hC h0 hA ⟨u8, u61, u62, u63, u64, u65, u66, u67, u68, u69, u70, u71, u72, u73, u74, u75, u76, u77, rfl, hHeld, f0, f1, f2, f3, f4, f5, f6, f7, f8, f9, f10, f11, f12, f13, f14, f15, f16, f17, ep, es⟩ K hK
      have g12 := f12 (hA 12 (by simp))
      obtain rfl := g12
      rw [if_pos (by kernel_rfl)]
      have q0 := cellBd hHeld c1 hbk
      go_simp
      try simp only [Act.put, List.setIfInBounds_toArray, List.set_cons_zero, List.set_cons_succ]
      refine hK.out _ _ ⟨_, _, _, _, _, _, _, _, _, _, _, _, _, _, _, _, _, _, rfl, ?_, ?_, ?_, ?_, ?_, ?_, ?_, ?_, ?_, ?_, ?_, ?_, ?_, ?_, ?_, ?_, ?_, ?_, ?_, ?_, ?_⟩
      · first | exact hHeld | exact hHeld.trans (hb.mono hHeld.size) | (trace_state; fail)
      · first | exact flag_ne (by decide) f0 | exact fun _ => rfl
      · first | exact flag_ne (by decide) f1 | exact fun _ => rfl
      · first | exact flag_ne (by decide) f2 | exact fun _ => rfl
      · first | exact flag_ne (by decide) f3 | exact fun _ => rfl
      · first | exact flag_ne (by decide) f4 | exact fun _ => rfl
      · first | exact flag_ne (by decide) f5 | exact fun _ => rfl
      · intro h; rw [getD_set_ne false (by decide)] at h; have := f6 h; obtain ⟨e1, e2⟩ := this; exact (by first | exact ⟨e1, e2⟩ | exact ⟨row_rf e1 ds hG, rd_grown e2 hG (by simp; omega) (by simp; omega)⟩ | (trace_state; fail))
      · first | exact flag_ne (by decide) f7 | exact fun _ => rfl
      · first | exact flag_ne (by decide) f8 | exact fun _ => rfl
      · first | exact flag_ne (by decide) f9 | exact fun _ => rfl
      · first | exact flag_ne (by decide) f10 | exact fun _ => rfl
      · first | exact flag_ne (by decide) f11 | exact fun _ => rfl
      · first | exact flag_ne (by decide) f12 | exact fun _ => rfl
      · intro _; first | rfl | (trace_state; fail)
      · intro h; rw [getD_set_ne false (by decide)] at h; exact (getD_no h0 (hC.step (j := 14) (k := 13) h (by kernel_rfl))).elim
      · first | exact flag_ne (by decide) f15 | exact fun _ => rfl
      · first | exact flag_ne (by decide) f16 | exact fun _ => rfl
      · first | exact flag_ne (by decide) f17 | exact fun _ => rfl
      · intro h; rw [getD_set_ne false (by decide)] at h; have := ep h; first | exact this | exact rd_grown this hG (by simp; omega) (by simp; omega) | (trace_state; fail)
      · intro h; rw [getD_set_ne false (by decide)] at h; have := es h; first | exact this | exact rf_grown this hG (by simp; omega) (by simp; omega) | (trace_state; fail)
    · refine StepAt.mk (o := { dst := some 75, op := Op.call { callee := Callee.value (Operand.func 15), args := #[Operand.tmp 69, Operand.tmp 74], argTypes := #[30, 3] }, type := 22, pos := _, after := #[{ on := 8, ground := Ground.data }, { on := 13, ground := Ground.data }, { on := 6, ground := Ground.chain }], guard := none }) (ws := [8, 13, 6]) rfl (by kernel_rfl) ?_
      rintro L b v hC h0 hA ⟨u8, u61, u62, u63, u64, u65, u66, u67, u68, u69, u70, u71, u72, u73, u74, u75, u76, u77, rfl, hHeld, f0, f1, f2, f3, f4, f5, f6, f7, f8, f9, f10, f11, f12, f13, f14, f15, f16, f17, ep, es⟩ K hK
      have g8 := f8 (hA 8 (by simp))
      obtain rfl := g8
      have g13 := f13 (hA 13 (by simp))
      obtain rfl := g13
      have g6 := f6 (hA 6 (by simp))
      obtain ⟨H6, H6b⟩ := g6
      have ds := es (getD_open h0)
      rw [if_pos (by kernel_rfl)]
      have q0 := cellBd hHeld c1 hbk
      go_simp
      refine (HQ.out v ds).mono ?_; rintro e v1 ⟨r, rfl, hr, _, hR1, hG⟩
      go_wp2_with fail
      try simp only [Act.put, List.setIfInBounds_toArray, List.set_cons_zero, List.set_cons_succ]
      refine hK.out _ _ ⟨_, _, _, _, _, _, _, _, _, _, _, _, _, _, _, _, _, _, rfl, ?_, ?_, ?_, ?_, ?_, ?_, ?_, ?_, ?_, ?_, ?_, ?_, ?_, ?_, ?_, ?_, ?_, ?_, ?_, ?_, ?_⟩
      · exact grownBelow hHeld hG hB.2 (Nat.le_trans hB0 hHeld.size)
      · first | exact flag_ne (by decide) f0 | exact fun _ => rfl
      · first | exact flag_ne (by decide) f1 | exact fun _ => rfl
      · first | exact flag_ne (by decide) f2 | exact fun _ => rfl
      · first | exact flag_ne (by decide) f3 | exact fun _ => rfl
      · first | exact flag_ne (by decide) f4 | exact fun _ => rfl
      · first | exact flag_ne (by decide) f5 | exact fun _ => rfl
      · intro h; rw [getD_set_ne false (by decide)] at h; have := f6 h; obtain ⟨e1, e2⟩ := this; exact (by first | exact ⟨e1, e2⟩ | exact ⟨row_rf e1 ds hG, rd_grown e2 hG (by simp; omega) (by simp; omega)⟩ | (trace_state; fail))
      · first | exact flag_ne (by decide) f7 | exact fun _ => rfl
      · first | exact flag_ne (by decide) f8 | exact fun _ => rfl
      · first | exact flag_ne (by decide) f9 | exact fun _ => rfl
      · first | exact flag_ne (by decide) f10 | exact fun _ => rfl
      · first | exact flag_ne (by decide) f11 | exact fun _ => rfl
      · first | exact flag_ne (by decide) f12 | exact fun _ => rfl
      · first | exact flag_ne (by decide) f13 | exact fun _ => rfl
      · intro _; first | exact ⟨hr, hR1⟩ | (trace_state; fail)
      · first | exact flag_ne (by decide) f15 | exact fun _ => rfl
      · first | exact flag_ne (by decide) f16 | exact fun _ => rfl
      · first | exact flag_ne (by decide) f17 | exact fun _ => rfl
      · intro h; rw [getD_set_ne false (by decide)] at h; have := ep h; first | exact this | exact rd_grown this hG (by simp; omega) (by simp; omega) | (trace_state; fail)
      · intro h; rw [getD_set_done h0] at h; cases h
    · refine StepAt.mk (o := { dst := some 76, op := Op.convert 22 9 (Operand.tmp 75), type := 9, pos := _, after := #[{ on := 14, ground := Ground.data }], guard := none }) (ws := [14]) rfl (by kernel_rfl) ?_
      rintro L b v hC h0 hA ⟨u8, u61, u62, u63, u64, u65, u66, u67, u68, u69, u70, u71, u72, u73, u74, u75, u76, u77, rfl, hHeld, f0, f1, f2, f3, f4, f5, f6, f7, f8, f9, f10, f11, f12, f13, f14, f15, f16, f17, ep, es⟩ K hK
      have g14 := f14 (hA 14 (by simp))
      obtain ⟨H14, H14b⟩ := g14
      have hcv := conv_row (P := Try.prog) (src := 22) (dst := 9) (e := 5) Try.underlying22 Try.underlying5 Try.underlying9 H14
      rw [if_pos (by kernel_rfl)]
      have q0 := cellBd hHeld c1 hbk
      go_simp
      try simp only [Act.put, List.setIfInBounds_toArray, List.set_cons_zero, List.set_cons_succ]
      refine hK.out _ _ ⟨_, _, _, _, _, _, _, _, _, _, _, _, _, _, _, _, _, _, rfl, ?_, ?_, ?_, ?_, ?_, ?_, ?_, ?_, ?_, ?_, ?_, ?_, ?_, ?_, ?_, ?_, ?_, ?_, ?_, ?_, ?_⟩
      · first | exact hHeld | exact hHeld.trans (hb.mono hHeld.size) | (trace_state; fail)
      · first | exact flag_ne (by decide) f0 | exact fun _ => rfl
      · first | exact flag_ne (by decide) f1 | exact fun _ => rfl
      · first | exact flag_ne (by decide) f2 | exact fun _ => rfl
      · first | exact flag_ne (by decide) f3 | exact fun _ => rfl
      · first | exact flag_ne (by decide) f4 | exact fun _ => rfl
      · first | exact flag_ne (by decide) f5 | exact fun _ => rfl
      · intro h; rw [getD_set_ne false (by decide)] at h; have := f6 h; obtain ⟨e1, e2⟩ := this; exact (by first | exact ⟨e1, e2⟩ | exact ⟨row_rf e1 ds hG, rd_grown e2 hG (by simp; omega) (by simp; omega)⟩ | (trace_state; fail))
      · first | exact flag_ne (by decide) f7 | exact fun _ => rfl
      · first | exact flag_ne (by decide) f8 | exact fun _ => rfl
      · first | exact flag_ne (by decide) f9 | exact fun _ => rfl
      · first | exact flag_ne (by decide) f10 | exact fun _ => rfl
      · first | exact flag_ne (by decide) f11 | exact fun _ => rfl
      · first | exact flag_ne (by decide) f12 | exact fun _ => rfl
      · first | exact flag_ne (by decide) f13 | exact fun _ => rfl
      · intro h; rw [getD_set_ne false (by decide)] at h; have := f14 h; obtain ⟨e1, e2⟩ := this; exact (by first | exact ⟨e1, e2⟩ | exact ⟨row_rd e1 dp hG, rf_grown e2 hG (by simp; omega) (by simp; omega)⟩ | (trace_state; fail))
      · intro _; first | rfl | (trace_state; fail)
      · first | exact flag_ne (by decide) f16 | exact fun _ => rfl
      · first | exact flag_ne (by decide) f17 | exact fun _ => rfl
      · intro h; rw [getD_set_ne false (by decide)] at h; have := ep h; first | exact this | exact rd_grown this hG (by simp; omega) (by simp; omega) | (trace_state; fail)
      · intro h; rw [getD_set_ne false (by decide)] at h; have := es h; first | exact this | exact rf_grown this hG (by simp; omega) (by simp; omega) | (trace_state; fail)
    · refine StepAt.mk (o := { dst := some 77, op := Op.binOp BinOp.eql 9 (Operand.tmp 68) (Operand.tmp 76) 9, type := 4, pos := _, after := #[{ on := 7, ground := Ground.data }, { on := 15, ground := Ground.data }], guard := none }) (ws := [7, 15]) rfl (by kernel_rfl) ?_
      rintro L b v hC h0 hA ⟨u8, u61, u62, u63, u64, u65, u66, u67, u68, u69, u70, u71, u72, u73, u74, u75, u76, u77, rfl, hHeld, f0, f1, f2, f3, f4, f5, f6, f7, f8, f9, f10, f11, f12, f13, f14, f15, f16, f17, ep, es⟩ K hK
      have g7 := f7 (hA 7 (by simp))
      obtain rfl := g7
      have g15 := f15 (hA 15 (by simp))
      obtain rfl := g15
      rw [if_pos (by kernel_rfl)]
      have q0 := cellBd hHeld c1 hbk
      go_simp
      try simp only [Act.put, List.setIfInBounds_toArray, List.set_cons_zero, List.set_cons_succ]
      refine hK.out _ _ ⟨_, _, _, _, _, _, _, _, _, _, _, _, _, _, _, _, _, _, rfl, ?_, ?_, ?_, ?_, ?_, ?_, ?_, ?_, ?_, ?_, ?_, ?_, ?_, ?_, ?_, ?_, ?_, ?_, ?_, ?_, ?_⟩
      · first | exact hHeld | exact hHeld.trans (hb.mono hHeld.size) | (trace_state; fail)
      · first | exact flag_ne (by decide) f0 | exact fun _ => rfl
      · first | exact flag_ne (by decide) f1 | exact fun _ => rfl
      · first | exact flag_ne (by decide) f2 | exact fun _ => rfl
      · first | exact flag_ne (by decide) f3 | exact fun _ => rfl
      · first | exact flag_ne (by decide) f4 | exact fun _ => rfl
      · first | exact flag_ne (by decide) f5 | exact fun _ => rfl
      · intro h; rw [getD_set_ne false (by decide)] at h; have := f6 h; obtain ⟨e1, e2⟩ := this; exact (by first | exact ⟨e1, e2⟩ | exact ⟨row_rf e1 ds hG, rd_grown e2 hG (by simp; omega) (by simp; omega)⟩ | (trace_state; fail))
      · first | exact flag_ne (by decide) f7 | exact fun _ => rfl
      · first | exact flag_ne (by decide) f8 | exact fun _ => rfl
      · first | exact flag_ne (by decide) f9 | exact fun _ => rfl
      · first | exact flag_ne (by decide) f10 | exact fun _ => rfl
      · first | exact flag_ne (by decide) f11 | exact fun _ => rfl
      · first | exact flag_ne (by decide) f12 | exact fun _ => rfl
      · first | exact flag_ne (by decide) f13 | exact fun _ => rfl
      · intro h; rw [getD_set_ne false (by decide)] at h; have := f14 h; obtain ⟨e1, e2⟩ := this; exact (by first | exact ⟨e1, e2⟩ | exact ⟨row_rd e1 dp hG, rf_grown e2 hG (by simp; omega) (by simp; omega)⟩ | (trace_state; fail))
      · first | exact flag_ne (by decide) f15 | exact fun _ => rfl
      · intro _; first | rfl | (trace_state; fail)
      · first | exact flag_ne (by decide) f17 | exact fun _ => rfl
      · intro h; rw [getD_set_ne false (by decide)] at h; have := ep h; first | exact this | exact rd_grown this hG (by simp; omega) (by simp; omega) | (trace_state; fail)
      · intro h; rw [getD_set_ne false (by decide)] at h; have := es h; first | exact this | exact rf_grown this hG (by simp; omega) (by simp; omega) | (trace_state; fail)
    · refine StepAt.mk (o := { dst := some 8, op := Op.assign (Operand.tmp 77), type := 4, pos := _, after := #[{ on := 16, ground := Ground.data }, { on := 14, ground := Ground.chain }, { on := 0, ground := Ground.phase }, { on := 1, ground := Ground.phase }, { on := 2, ground := Ground.phase }, { on := 3, ground := Ground.phase }, { on := 4, ground := Ground.phase }, { on := 5, ground := Ground.phase }, { on := 6, ground := Ground.phase }, { on := 7, ground := Ground.phase }, { on := 8, ground := Ground.phase }, { on := 9, ground := Ground.phase }, { on := 10, ground := Ground.phase }, { on := 11, ground := Ground.phase }, { on := 12, ground := Ground.phase }, { on := 13, ground := Ground.phase }, { on := 14, ground := Ground.phase }, { on := 15, ground := Ground.phase }, { on := 16, ground := Ground.phase }], guard := none }) (ws := [16, 14, 0, 1, 2, 3, 4, 5, 6, 7, 8, 9, 10, 11, 12, 13, 14, 15, 16]) rfl (by kernel_rfl) ?_
      rintro L b v hC h0 hA ⟨u8, u61, u62, u63, u64, u65, u66, u67, u68, u69, u70, u71, u72, u73, u74, u75, u76, u77, rfl, hHeld, f0, f1, f2, f3, f4, f5, f6, f7, f8, f9, f10, f11, f12, f13, f14, f15, f16, f17, ep, es⟩ K hK
      have g16 := f16 (hA 16 (by simp))
      obtain rfl := g16
      have g14 := f14 (hA 14 (by simp))
      obtain ⟨H14, H14b⟩ := g14
      have g0 := f0 (hA 0 (by simp))
      obtain rfl := g0
      have g1 := f1 (hA 1 (by simp))
      obtain rfl := g1
      have g2 := f2 (hA 2 (by simp))
      obtain rfl := g2
      have g3 := f3 (hA 3 (by simp))
      obtain rfl := g3
      have g4 := f4 (hA 4 (by simp))
      obtain rfl := g4
      have g5 := f5 (hA 5 (by simp))
      obtain rfl := g5
      have g6 := f6 (hA 6 (by simp))
      obtain ⟨H6, H6b⟩ := g6
      have g7 := f7 (hA 7 (by simp))
      obtain rfl := g7
      have g8 := f8 (hA 8 (by simp))
      obtain rfl := g8
      have g9 := f9 (hA 9 (by simp))
      obtain rfl := g9
      have g10 := f10 (hA 10 (by simp))
      obtain rfl := g10
      have g11 := f11 (hA 11 (by simp))
      obtain rfl := g11
      have g12 := f12 (hA 12 (by simp))
      obtain rfl := g12
      have g13 := f13 (hA 13 (by simp))
      obtain rfl := g13
      have g15 := f15 (hA 15 (by simp))
      obtain rfl := g15
      rw [if_pos (by kernel_rfl)]
      have q0 := cellBd hHeld c1 hbk
      go_simp
      try simp only [Act.put, List.setIfInBounds_toArray, List.set_cons_zero, List.set_cons_succ]
      refine hK.out _ _ ⟨_, _, _, _, _, _, _, _, _, _, _, _, _, _, _, _, _, _, rfl, ?_, ?_, ?_, ?_, ?_, ?_, ?_, ?_, ?_, ?_, ?_, ?_, ?_, ?_, ?_, ?_, ?_, ?_, ?_, ?_, ?_⟩
      · first | exact hHeld | exact hHeld.trans (hb.mono hHeld.size) | (trace_state; fail)
      · first | exact flag_ne (by decide) f0 | exact fun _ => rfl
      · first | exact flag_ne (by decide) f1 | exact fun _ => rfl
      · first | exact flag_ne (by decide) f2 | exact fun _ => rfl
      · first | exact flag_ne (by decide) f3 | exact fun _ => rfl
      · first | exact flag_ne (by decide) f4 | exact fun _ => rfl
      · first | exact flag_ne (by decide) f5 | exact fun _ => rfl
      · intro h; rw [getD_set_ne false (by decide)] at h; have := f6 h; obtain ⟨e1, e2⟩ := this; exact (by first | exact ⟨e1, e2⟩ | exact ⟨row_rf e1 ds hG, rd_grown e2 hG (by simp; omega) (by simp; omega)⟩ | (trace_state; fail))
      · first | exact flag_ne (by decide) f7 | exact fun _ => rfl
      · first | exact flag_ne (by decide) f8 | exact fun _ => rfl
      · first | exact flag_ne (by decide) f9 | exact fun _ => rfl
      · first | exact flag_ne (by decide) f10 | exact fun _ => rfl
      · first | exact flag_ne (by decide) f11 | exact fun _ => rfl
      · first | exact flag_ne (by decide) f12 | exact fun _ => rfl
      · first | exact flag_ne (by decide) f13 | exact fun _ => rfl
      · intro h; rw [getD_set_ne false (by decide)] at h; have := f14 h; obtain ⟨e1, e2⟩ := this; exact (by first | exact ⟨e1, e2⟩ | exact ⟨row_rd e1 dp hG, rf_grown e2 hG (by simp; omega) (by simp; omega)⟩ | (trace_state; fail))
      · first | exact flag_ne (by decide) f15 | exact fun _ => rfl
      · first | exact flag_ne (by decide) f16 | exact fun _ => rfl
      · intro _; first | rfl | (trace_state; fail)
      · intro h; rw [getD_set_ne false (by decide)] at h; have := ep h; first | exact this | exact rd_grown this hG (by simp; omega) (by simp; omega) | (trace_state; fail)
      · intro h; rw [getD_set_ne false (by decide)] at h; have := es h; first | exact this | exact rf_grown this hG (by simp; omega) (by simp; omega) | (trace_state; fail)
  rintro L b v hA ⟨u8, u61, u62, u63, u64, u65, u66, u67, u68, u69, u70, u71, u72, u73, u74, u75, u76, u77, rfl, hHeld, f0, f1, f2, f3, f4, f5, f6, f7, f8, f9, f10, f11, f12, f13, f14, f15, f16, f17, ep, es⟩
  clear ep
  clear es
  have g0 := f0 (hA 0 (by omega))
  clear f0
  obtain rfl := g0
  have g1 := f1 (hA 1 (by omega))
  clear f1
  obtain rfl := g1
  have g2 := f2 (hA 2 (by omega))
  clear f2
  obtain rfl := g2
  have g3 := f3 (hA 3 (by omega))
  clear f3
  obtain rfl := g3
  have g4 := f4 (hA 4 (by omega))
  clear f4
  obtain rfl := g4
  have g5 := f5 (hA 5 (by omega))
  clear f5
  obtain rfl := g5
  have g6 := f6 (hA 6 (by omega))
  clear f6
  have g7 := f7 (hA 7 (by omega))
  clear f7
  obtain rfl := g7
  have g8 := f8 (hA 8 (by omega))
  clear f8
  obtain rfl := g8
  have g9 := f9 (hA 9 (by omega))
  clear f9
  obtain rfl := g9
  have g10 := f10 (hA 10 (by omega))
  clear f10
  obtain rfl := g10
  have g11 := f11 (hA 11 (by omega))
  clear f11
  obtain rfl := g11
  have g12 := f12 (hA 12 (by omega))
  clear f12
  obtain rfl := g12
  have g13 := f13 (hA 13 (by omega))
  clear f13
  obtain rfl := g13
  have g14 := f14 (hA 14 (by omega))
  clear f14
  have g15 := f15 (hA 15 (by omega))
  clear f15
  obtain rfl := g15
  have g16 := f16 (hA 16 (by omega))
  clear f16
  obtain rfl := g16
  have g17 := f17 (hA 17 (by omega))
  clear f17
  obtain rfl := g17
  clear hA
  exact ⟨rfl, _, _, _, _, _, _, _, _, _, _, _, _, _, _, _, _, _, _, rfl, hHeld, g6, g14, rfl⟩
end Go.Proofs.Yteffcopdhimbaaa
