/- Layer 14: the reference's row of a block: one region. -/
import Derived.Test.YtdpcfcflcfjmjaaTabE
import Derived.Test.YtdpcfcflcfjmjaaTabRef
import Derived.Test.YtdpcfcflcfjmjaaOctetRefText
namespace Go.Proofs.Ytdpcfcflcfjmjaa
open Go.RowKit
set_option linter.unusedSimpArgs false
set_option linter.unusedVariables false
theorem owns_u8 (w : World) {B : Nat} (k : Int) (hB : B ≤ w.heap.size) : (w.alloc (.cells #[.int .u8 k] 5)).ownsRow B 5 1 (.slice (some ⟨w.heap.size, 0, none⟩) 1 1) 1 [.int .u8 k] :=
  ⟨rfl, Or.inr ⟨w.heap.size, 1, #[.int .u8 k], rfl, hB, by show (w.heap.push _)[w.heap.size]? = _; simp, by omega, by unfold maxLen; omega, by simp, by simp⟩⟩
set_option maxHeartbeats 4000000 in
theorem refBlks_r9 (L : List Bk) (i : TypeInfo) (wr : World) (n ca bk off k : Nat) (x : Bk) (r0 : Value) (M : Nat) (T l : List UInt8) (hi : Try.prog.info? 5 = some i) (hz : i.zero = some (.int .u8 0)) (hsize : i.size = 1) (hby : i.bytes = 1) (c0 : wr.cell? ⟨bk, off + k * 2, none⟩ = some (.string ⟨x.name.toArray⟩)) (c1 : wr.cell? ⟨bk, off + k * 2 + 1, none⟩ = some (.int .i64 x.kind)) (hbw2 : bk < wr.heap.size) (HTX : Hid (∀ W, Below wr.heap.size wr W → Calls Try.prog 38 #[r0, .string ⟨x.name.toArray⟩] W fun e w' => ∃ r, e = .returned r ∧ w'.ownsRow W.heap.size 5 1 r M (bytesV T) ∧ Below W.heap.size W w')) (hlt : k < n) (hni : n ≤ 32) (hM1 : M ≤ 2000000) (t1 t2 t3 t6 t7 t8 t9 t10 t11 t12 t13 t14 t15 t16 t17 t18 t19 t20 t21 t22 t23 t24 t25 t26 t27 t28 t29 t30 t31 t32 t33 t34 t35 t36 t37 t38 t39 t40 t41 t42 t43 t44 t45 t46 t47 t48 t49 : Value) :
    (Code.region 9 #[{ dst := some 34, op := Op.move (Operand.tmp 4), type := 23, pos := "ref.go:55", after := #[], guard := none }, { dst := some 35, op := Op.move (Operand.tmp 0), type := 40, pos := "ref.go:55", after := #[], guard := none }, { dst := some 36, op := Op.move (Operand.tmp 5), type := 3, pos := "ref.go:55", after := #[], guard := none }, { dst := some 37, op := Op.indexAddr 40 (Operand.tmp 35) (Operand.tmp 36), type := 0, pos := "ref.go:55", after := #[{ on := 1, ground := Ground.data }, { on := 2, ground := Ground.data }], guard := none }, { dst := some 38, op := Op.fieldAddr 42 (Operand.tmp 37) 0, type := 0, pos := "ref.go:55", after := #[{ on := 3, ground := Ground.data }], guard := none }, { dst := some 39, op := Op.load 9 (Operand.tmp 38), type := 9, pos := "ref.go:55", after := #[{ on := 4, ground := Ground.data }], guard := none }, { dst := some 40, op := Op.call { callee := Callee.value (Operand.func 38), args := #[Operand.tmp 34, Operand.tmp 39], argTypes := #[23, 9] }, type := 23, pos := "ref.go:55", after := #[{ on := 0, ground := Ground.data }, { on := 5, ground := Ground.data }], guard := none }, { dst := some 41, op := Op.move (Operand.tmp 0), type := 40, pos := "ref.go:55", after := #[], guard := none }, { dst := some 42, op := Op.move (Operand.tmp 5), type := 3, pos := "ref.go:55", after := #[], guard := none }, { dst := some 43, op := Op.indexAddr 40 (Operand.tmp 41) (Operand.tmp 42), type := 0, pos := "ref.go:55", after := #[{ on := 7, ground := Ground.data }, { on := 8, ground := Ground.data }], guard := none }, { dst := some 44, op := Op.fieldAddr 42 (Operand.tmp 43) 1, type := 0, pos := "ref.go:55", after := #[{ on := 9, ground := Ground.data }], guard := none }, { dst := some 45, op := Op.load 3 (Operand.tmp 44), type := 3, pos := "ref.go:55", after := #[{ on := 10, ground := Ground.data }], guard := none }, { dst := some 46, op := Op.convert 3 5 (Operand.tmp 45), type := 5, pos := "ref.go:55", after := #[{ on := 11, ground := Ground.data }], guard := none }, { dst := some 47, op := Op.buildSlice 23 1 #[(0, Operand.tmp 46)], type := 23, pos := "ref.go:55", after := #[{ on := 12, ground := Ground.data }], guard := none }, { dst := some 48, op := Op.call { callee := Callee.builtin Builtin.append, args := #[Operand.tmp 40, Operand.tmp 47], argTypes := #[23, 23] }, type := 23, pos := "ref.go:55", after := #[{ on := 6, ground := Ground.data }, { on := 13, ground := Ground.data }, { on := 6, ground := Ground.chain }], guard := none }, { dst := some 4, op := Op.assign (Operand.tmp 48), type := 23, pos := "ref.go:55", after := #[{ on := 14, ground := Ground.data }, { on := 14, ground := Ground.chain }, { on := 0, ground := Ground.phase }, { on := 1, ground := Ground.phase }, { on := 2, ground := Ground.phase }, { on := 3, ground := Ground.phase }, { on := 4, ground := Ground.phase }, { on := 5, ground := Ground.phase }, { on := 6, ground := Ground.phase }, { on := 7, ground := Ground.phase }, { on := 8, ground := Ground.phase }, { on := 9, ground := Ground.phase }, { on := 10, ground := Ground.phase }, { on := 11, ground := Ground.phase }, { on := 12, ground := Ground.phase }, { on := 13, ground := Ground.phase }, { on := 14, ground := Ground.phase }], guard := none }] true).wp Try.prog (fun e b v => e = Exit.normal ∧ ∃ u4 u34 u35 u36 u37 u38 u39 u40 u41 u42 u43 u44 u45 u46 u47 u48 : Value, b = ⟨#[.slice (some ⟨bk, off, none⟩) n ca, t1, t2, t3, u4, .int .i64 k, t6, t7, t8, t9, t10, t11, t12, t13, t14, t15, t16, t17, t18, t19, t20, t21, t22, t23, t24, t25, t26, t27, t28, t29, t30, t31, t32, t33, u34, u35, u36, u37, u38, u39, u40, u41, u42, u43, u44, u45, u46, u47, u48, t49], []⟩ ∧ Below wr.heap.size wr v ∧ v.ownsRow wr.heap.size 5 1 u4 (M + 1) (bytesV T ++ [.int .u8 (x.kind % 256)])) ⟨#[.slice (some ⟨bk, off, none⟩) n ca, t1, t2, t3, r0, .int .i64 k, t6, t7, t8, t9, t10, t11, t12, t13, t14, t15, t16, t17, t18, t19, t20, t21, t22, t23, t24, t25, t26, t27, t28, t29, t30, t31, t32, t33, t34, t35, t36, t37, t38, t39, t40, t41, t42, t43, t44, t45, t46, t47, t48, t49], []⟩ wr := by
  refine wp_region_facts (n := 16) (fun L b v => ∃ u4 u34 u35 u36 u37 u38 u39 u40 u41 u42 u43 u44 u45 u46 u47 u48 : Value, b = ⟨#[.slice (some ⟨bk, off, none⟩) n ca, t1, t2, t3, u4, .int .i64 k, t6, t7, t8, t9, t10, t11, t12, t13, t14, t15, t16, t17, t18, t19, t20, t21, t22, t23, t24, t25, t26, t27, t28, t29, t30, t31, t32, t33, u34, u35, u36, u37, u38, u39, u40, u41, u42, u43, u44, u45, u46, u47, u48, t49], []⟩ ∧ Below wr.heap.size wr v ∧ (L.getD 0 false = true → u34 = r0) ∧ (L.getD 1 false = true → u35 = .slice (some ⟨bk, off, none⟩) n ca) ∧ (L.getD 2 false = true → u36 = .int .i64 k) ∧ (L.getD 3 false = true → u37 = .pointer (some ⟨bk, off + k * 2, none⟩)) ∧ (L.getD 4 false = true → u38 = .pointer (some ⟨bk, off + k * 2, none⟩)) ∧ (L.getD 5 false = true → u39 = .string ⟨x.name.toArray⟩) ∧ (L.getD 6 false = true → L.getD 14 true = false → v.ownsRow wr.heap.size 5 1 u40 M (bytesV T)) ∧ (L.getD 7 false = true → u41 = .slice (some ⟨bk, off, none⟩) n ca) ∧ (L.getD 8 false = true → u42 = .int .i64 k) ∧ (L.getD 9 false = true → u43 = .pointer (some ⟨bk, off + k * 2, none⟩)) ∧ (L.getD 10 false = true → u44 = .pointer (some ⟨bk, off + k * 2 + 1, none⟩)) ∧ (L.getD 11 false = true → u45 = .int .i64 x.kind) ∧ (L.getD 12 false = true → u46 = .int .u8 (x.kind % 256)) ∧ (L.getD 13 false = true → L.getD 14 true = false → ∃ q, u47 = .slice (some ⟨q, 0, none⟩) 1 1 ∧ v.ownsRow wr.heap.size 5 1 (.slice (some ⟨q, 0, none⟩) 1 1) 1 [.int .u8 (x.kind % 256)]) ∧ (L.getD 14 false = true → v.ownsRow wr.heap.size 5 1 u48 (M + 1) (bytesV T ++ [.int .u8 (x.kind % 256)])) ∧ (L.getD 15 false = true → v.ownsRow wr.heap.size 5 1 u4 (M + 1) (bytesV T ++ [.int .u8 (x.kind % 256)])) ∧ (L.getD 15 false = false → u4 = r0)) (by kernel_rfl) (by kernel_rfl) (by kernel_rfl) ?_ ?_ ?_
  · refine ⟨_, _, _, _, _, _, _, _, _, _, _, _, _, _, _, _, rfl, (Below.refl _ _).drew, flag_new, flag_new, flag_new, flag_new, flag_new, flag_new, flag_new, flag_new, flag_new, flag_new, flag_new, flag_new, flag_new, flag_new, flag_new, flag_new, fun _ => (by first | rfl | assumption)⟩
  · refine AllSteps.succ (AllSteps.succ (AllSteps.succ (AllSteps.succ (AllSteps.succ (AllSteps.succ (AllSteps.succ (AllSteps.succ (AllSteps.succ (AllSteps.succ (AllSteps.succ (AllSteps.succ (AllSteps.succ (AllSteps.succ (AllSteps.succ (AllSteps.succ AllSteps.zero ?_) ?_) ?_) ?_) ?_) ?_) ?_) ?_) ?_) ?_) ?_) ?_) ?_) ?_) ?_) ?_
    · refine StepAt.mk (o := { dst := some 34, op := Op.move (Operand.tmp 4), type := 23, pos := _, after := #[], guard := none }) (ws := []) rfl (by kernel_rfl) ?_
      rintro L b v hC h0 hA ⟨u4, u34, u35, u36, u37, u38, u39, u40, u41, u42, u43, u44, u45, u46, u47, u48, rfl, hHeld, f0, f1, f2, f3, f4, f5, f6, f7, f8, f9, f10, f11, f12, f13, f14, f15, er⟩ K hK
      have dr := er (Bool.eq_false_iff.2 (fun h => getD_no h0 (hC.step (j := 15) (k := 0) h (by kernel_rfl))))
      obtain rfl := dr
      rw [if_pos (by kernel_rfl)]
      have q0 := cellB hHeld c0 hbw2
      have q1 := cellB hHeld c1 hbw2
      go_simp
      try simp only [Act.put, List.setIfInBounds_toArray, List.set_cons_zero, List.set_cons_succ]
      refine hK.out _ _ ⟨_, _, _, _, _, _, _, _, _, _, _, _, _, _, _, _, rfl, ?_, ?_, ?_, ?_, ?_, ?_, ?_, ?_, ?_, ?_, ?_, ?_, ?_, ?_, ?_, ?_, ?_, ?_⟩
      · first | exact hHeld | exact hHeld.trans (hb.mono hHeld.size) | (trace_state; fail)
      · intro _; first | rfl | (trace_state; fail)
      · first | exact flag_ne (by decide) f1 | exact fun _ => rfl
      · first | exact flag_ne (by decide) f2 | exact fun _ => rfl
      · first | exact flag_ne (by decide) f3 | exact fun _ => rfl
      · first | exact flag_ne (by decide) f4 | exact fun _ => rfl
      · first | exact flag_ne (by decide) f5 | exact fun _ => rfl
      · intro h _; rw [getD_set_ne false (by decide)] at h; exact (getD_no h0 (hC.step (j := 6) (k := 0) h (by kernel_rfl))).elim
      · first | exact flag_ne (by decide) f7 | exact fun _ => rfl
      · first | exact flag_ne (by decide) f8 | exact fun _ => rfl
      · first | exact flag_ne (by decide) f9 | exact fun _ => rfl
      · first | exact flag_ne (by decide) f10 | exact fun _ => rfl
      · first | exact flag_ne (by decide) f11 | exact fun _ => rfl
      · first | exact flag_ne (by decide) f12 | exact fun _ => rfl
      · intro h h7; rw [getD_set_ne false (by decide)] at h; rw [getD_set_ne true (by decide)] at h7; have := f13 h h7; obtain ⟨q, e1, e2⟩ := this; exact (by first | exact ⟨q, e1, e2⟩ | exact ⟨q, e1, owns_below e2 hb⟩ | (trace_state; fail))
      · intro h; rw [getD_set_ne false (by decide)] at h; exact (getD_no h0 (hC.step (j := 6) (k := 0) (hC.step (j := 14) (k := 6) h (by kernel_rfl)) (by kernel_rfl))).elim
      · intro h; rw [getD_set_ne false (by decide)] at h; exact (getD_no h0 (hC.step (j := 15) (k := 0) h (by kernel_rfl))).elim
      · intro h; first | rfl | (rw [getD_set_ne false (by decide)] at h; have := er h; first | exact this | exact owns_below this hb | (trace_state; fail))
    · refine StepAt.mk (o := { dst := some 35, op := Op.move (Operand.tmp 0), type := 40, pos := _, after := #[], guard := none }) (ws := []) rfl (by kernel_rfl) ?_
      rintro L b v hC h0 hA ⟨u4, u34, u35, u36, u37, u38, u39, u40, u41, u42, u43, u44, u45, u46, u47, u48, rfl, hHeld, f0, f1, f2, f3, f4, f5, f6, f7, f8, f9, f10, f11, f12, f13, f14, f15, er⟩ K hK
      rw [if_pos (by kernel_rfl)]
      have q0 := cellB hHeld c0 hbw2
      have q1 := cellB hHeld c1 hbw2
      go_simp
      try simp only [Act.put, List.setIfInBounds_toArray, List.set_cons_zero, List.set_cons_succ]
      refine hK.out _ _ ⟨_, _, _, _, _, _, _, _, _, _, _, _, _, _, _, _, rfl, ?_, ?_, ?_, ?_, ?_, ?_, ?_, ?_, ?_, ?_, ?_, ?_, ?_, ?_, ?_, ?_, ?_, ?_⟩
      · first | exact hHeld | exact hHeld.trans (hb.mono hHeld.size) | (trace_state; fail)
      · first | exact flag_ne (by decide) f0 | exact fun _ => rfl
      · intro _; first | rfl | (trace_state; fail)
      · first | exact flag_ne (by decide) f2 | exact fun _ => rfl
      · first | exact flag_ne (by decide) f3 | exact fun _ => rfl
      · first | exact flag_ne (by decide) f4 | exact fun _ => rfl
      · first | exact flag_ne (by decide) f5 | exact fun _ => rfl
      · intro h _; rw [getD_set_ne false (by decide)] at h; exact (getD_no h0 (hC.step (j := 3) (k := 1) (hC.step (j := 4) (k := 3) (hC.step (j := 5) (k := 4) (hC.step (j := 6) (k := 5) h (by kernel_rfl)) (by kernel_rfl)) (by kernel_rfl)) (by kernel_rfl))).elim
      · first | exact flag_ne (by decide) f7 | exact fun _ => rfl
      · first | exact flag_ne (by decide) f8 | exact fun _ => rfl
      · first | exact flag_ne (by decide) f9 | exact fun _ => rfl
      · first | exact flag_ne (by decide) f10 | exact fun _ => rfl
      · first | exact flag_ne (by decide) f11 | exact fun _ => rfl
      · first | exact flag_ne (by decide) f12 | exact fun _ => rfl
      · intro h h7; rw [getD_set_ne false (by decide)] at h; rw [getD_set_ne true (by decide)] at h7; have := f13 h h7; obtain ⟨q, e1, e2⟩ := this; exact (by first | exact ⟨q, e1, e2⟩ | exact ⟨q, e1, owns_below e2 hb⟩ | (trace_state; fail))
      · intro h; rw [getD_set_ne false (by decide)] at h; exact (getD_no h0 (hC.step (j := 3) (k := 1) (hC.step (j := 4) (k := 3) (hC.step (j := 5) (k := 4) (hC.step (j := 6) (k := 5) (hC.step (j := 14) (k := 6) h (by kernel_rfl)) (by kernel_rfl)) (by kernel_rfl)) (by kernel_rfl)) (by kernel_rfl))).elim
      · intro h; rw [getD_set_ne false (by decide)] at h; exact (getD_no h0 (hC.step (j := 15) (k := 1) h (by kernel_rfl))).elim
      · intro h; rw [getD_set_ne false (by decide)] at h; have := er h; first | exact this | exact owns_below this hb | (trace_state; fail)
    · refine StepAt.mk (o := { dst := some 36, op := Op.move (Operand.tmp 5), type := 3, pos := _, after := #[], guard := none }) (ws := []) rfl (by kernel_rfl) ?_
      rintro L b v hC h0 hA ⟨u4, u34, u35, u36, u37, u38, u39, u40, u41, u42, u43, u44, u45, u46, u47, u48, rfl, hHeld, f0, f1, f2, f3, f4, f5, f6, f7, f8, f9, f10, f11, f12, f13, f14, f15, er⟩ K hK
      rw [if_pos (by kernel_rfl)]
      have q0 := cellB hHeld c0 hbw2
      have q1 := cellB hHeld c1 hbw2
      go_simp
      try simp only [Act.put, List.setIfInBounds_toArray, List.set_cons_zero, List.set_cons_succ]
      refine hK.out _ _ ⟨_, _, _, _, _, _, _, _, _, _, _, _, _, _, _, _, rfl, ?_, ?_, ?_, ?_, ?_, ?_, ?_, ?_, ?_, ?_, ?_, ?_, ?_, ?_, ?_, ?_, ?_, ?_⟩
      · first | exact hHeld | exact hHeld.trans (hb.mono hHeld.size) | (trace_state; fail)
      · first | exact flag_ne (by decide) f0 | exact fun _ => rfl
      · first | exact flag_ne (by decide) f1 | exact fun _ => rfl
      · intro _; first | rfl | (trace_state; fail)
      · first | exact flag_ne (by decide) f3 | exact fun _ => rfl
      · first | exact flag_ne (by decide) f4 | exact fun _ => rfl
      · first | exact flag_ne (by decide) f5 | exact fun _ => rfl
      · intro h _; rw [getD_set_ne false (by decide)] at h; exact (getD_no h0 (hC.step (j := 3) (k := 2) (hC.step (j := 4) (k := 3) (hC.step (j := 5) (k := 4) (hC.step (j := 6) (k := 5) h (by kernel_rfl)) (by kernel_rfl)) (by kernel_rfl)) (by kernel_rfl))).elim
      · first | exact flag_ne (by decide) f7 | exact fun _ => rfl
      · first | exact flag_ne (by decide) f8 | exact fun _ => rfl
      · first | exact flag_ne (by decide) f9 | exact fun _ => rfl
      · first | exact flag_ne (by decide) f10 | exact fun _ => rfl
      · first | exact flag_ne (by decide) f11 | exact fun _ => rfl
      · first | exact flag_ne (by decide) f12 | exact fun _ => rfl
      · intro h h7; rw [getD_set_ne false (by decide)] at h; rw [getD_set_ne true (by decide)] at h7; have := f13 h h7; obtain ⟨q, e1, e2⟩ := this; exact (by first | exact ⟨q, e1, e2⟩ | exact ⟨q, e1, owns_below e2 hb⟩ | (trace_state; fail))
      · intro h; rw [getD_set_ne false (by decide)] at h; exact (getD_no h0 (hC.step (j := 3) (k := 2) (hC.step (j := 4) (k := 3) (hC.step (j := 5) (k := 4) (hC.step (j := 6) (k := 5) (hC.step (j := 14) (k := 6) h (by kernel_rfl)) (by kernel_rfl)) (by kernel_rfl)) (by kernel_rfl)) (by kernel_rfl))).elim
      · intro h; rw [getD_set_ne false (by decide)] at h; exact (getD_no h0 (hC.step (j := 15) (k := 2) h (by kernel_rfl))).elim
      · intro h; rw [getD_set_ne false (by decide)] at h; have := er h; first | exact this | exact owns_below this hb | (trace_state; fail)
    · refine StepAt.mk (o := { dst := some 37, op := Op.indexAddr 40 (Operand.tmp 35) (Operand.tmp 36), type := 0, pos := _, after := #[{ on := 1, ground := Ground.data }, { on := 2, ground := Ground.data }], guard := none }) (ws := [1, 2]) rfl (by kernel_rfl) ?_
      rintro L b v hC h0 hA ⟨u4, u34, u35, u36, u37, u38, u39, u40, u41, u42, u43, u44, u45, u46, u47, u48, rfl, hHeld, f0, f1, f2, f3, f4, f5, f6, f7, f8, f9, f10, f11, f12, f13, f14, f15, er⟩ K hK
      have g1 := f1 (hA 1 (by simp))
      obtain rfl := g1
      have g2 := f2 (hA 2 (by simp))
      obtain rfl := g2
      rw [if_pos (by kernel_rfl)]
      have q0 := cellB hHeld c0 hbw2
      have q1 := cellB hHeld c1 hbw2
      go_simp
      try simp only [Act.put, List.setIfInBounds_toArray, List.set_cons_zero, List.set_cons_succ]
      refine hK.out _ _ ⟨_, _, _, _, _, _, _, _, _, _, _, _, _, _, _, _, rfl, ?_, ?_, ?_, ?_, ?_, ?_, ?_, ?_, ?_, ?_, ?_, ?_, ?_, ?_, ?_, ?_, ?_, ?_⟩
      · first | exact hHeld | exact hHeld.trans (hb.mono hHeld.size) | (trace_state; fail)
      · first | exact flag_ne (by decide) f0 | exact fun _ => rfl
      · first | exact flag_ne (by decide) f1 | exact fun _ => rfl
      · first | exact flag_ne (by decide) f2 | exact fun _ => rfl
      · intro _; first | rfl | (trace_state; fail)
      · first | exact flag_ne (by decide) f4 | exact fun _ => rfl
      · first | exact flag_ne (by decide) f5 | exact fun _ => rfl
      · intro h _; rw [getD_set_ne false (by decide)] at h; exact (getD_no h0 (hC.step (j := 4) (k := 3) (hC.step (j := 5) (k := 4) (hC.step (j := 6) (k := 5) h (by kernel_rfl)) (by kernel_rfl)) (by kernel_rfl))).elim
      · first | exact flag_ne (by decide) f7 | exact fun _ => rfl
      · first | exact flag_ne (by decide) f8 | exact fun _ => rfl
      · first | exact flag_ne (by decide) f9 | exact fun _ => rfl
      · first | exact flag_ne (by decide) f10 | exact fun _ => rfl
      · first | exact flag_ne (by decide) f11 | exact fun _ => rfl
      · first | exact flag_ne (by decide) f12 | exact fun _ => rfl
      · intro h h7; rw [getD_set_ne false (by decide)] at h; rw [getD_set_ne true (by decide)] at h7; have := f13 h h7; obtain ⟨q, e1, e2⟩ := this; exact (by first | exact ⟨q, e1, e2⟩ | exact ⟨q, e1, owns_below e2 hb⟩ | (trace_state; fail))
      · intro h; rw [getD_set_ne false (by decide)] at h; exact (getD_no h0 (hC.step (j := 4) (k := 3) (hC.step (j := 5) (k := 4) (hC.step (j := 6) (k := 5) (hC.step (j := 14) (k := 6) h (by kernel_rfl)) (by kernel_rfl)) (by kernel_rfl)) (by kernel_rfl))).elim
      · intro h; rw [getD_set_ne false (by decide)] at h; exact (getD_no h0 (hC.step (j := 15) (k := 3) h (by kernel_rfl))).elim
      · intro h; rw [getD_set_ne false (by decide)] at h; have := er h; first | exact this | exact owns_below this hb | (trace_state; fail)
    · refine StepAt.mk (o := { dst := some 38, op := Op.fieldAddr 42 (Operand.tmp 37) 0, type := 0, pos := _, after := #[{ on := 3, ground := Ground.data }], guard := none }) (ws := [3]) rfl (by kernel_rfl) ?_
      rintro L b v hC h0 hA ⟨u4, u34, u35, u36, u37, u38, u39, u40, u41, u42, u43, u44, u45, u46, u47, u48, rfl, hHeld, f0, f1, f2, f3, f4, f5, f6, f7, f8, f9, f10, f11, f12, f13, f14, f15, er⟩ K hK
      have g3 := f3 (hA 3 (by simp))
      obtain rfl := g3
      rw [if_pos (by kernel_rfl)]
      have q0 := cellB hHeld c0 hbw2
      have q1 := cellB hHeld c1 hbw2
      go_simp
      try simp only [Act.put, List.setIfInBounds_toArray, List.set_cons_zero, List.set_cons_succ]
      refine hK.out _ _ ⟨_, _, _, _, _, _, _, _, _, _, _, _, _, _, _, _, rfl, ?_, ?_, ?_, ?_, ?_, ?_, ?_, ?_, ?_, ?_, ?_, ?_, ?_, ?_, ?_, ?_, ?_, ?_⟩
      · first | exact hHeld | exact hHeld.trans (hb.mono hHeld.size) | (trace_state; fail)
      · first | exact flag_ne (by decide) f0 | exact fun _ => rfl
      · first | exact flag_ne (by decide) f1 | exact fun _ => rfl
      · first | exact flag_ne (by decide) f2 | exact fun _ => rfl
      · first | exact flag_ne (by decide) f3 | exact fun _ => rfl
      · intro _; first | rfl | (trace_state; fail)
      · first | exact flag_ne (by decide) f5 | exact fun _ => rfl
      · intro h _; rw [getD_set_ne false (by decide)] at h; exact (getD_no h0 (hC.step (j := 5) (k := 4) (hC.step (j := 6) (k := 5) h (by kernel_rfl)) (by kernel_rfl))).elim
      · first | exact flag_ne (by decide) f7 | exact fun _ => rfl
      · first | exact flag_ne (by decide) f8 | exact fun _ => rfl
      · first | exact flag_ne (by decide) f9 | exact fun _ => rfl
      · first | exact flag_ne (by decide) f10 | exact fun _ => rfl
      · first | exact flag_ne (by decide) f11 | exact fun _ => rfl
      · first | exact flag_ne (by decide) f12 | exact fun _ => rfl
      · intro h h7; rw [getD_set_ne false (by decide)] at h; rw [getD_set_ne true (by decide)] at h7; have := f13 h h7; obtain ⟨q, e1, e2⟩ := this; exact (by first | exact ⟨q, e1, e2⟩ | exact ⟨q, e1, owns_below e2 hb⟩ | (trace_state; fail))
      · intro h; rw [getD_set_ne false (by decide)] at h; exact (getD_no h0 (hC.step (j := 5) (k := 4) (hC.step (j := 6) (k := 5) (hC.step (j := 14) (k := 6) h (by kernel_rfl)) (by kernel_rfl)) (by kernel_rfl))).elim
      · intro h; rw [getD_set_ne false (by decide)] at h; exact (getD_no h0 (hC.step (j := 15) (k := 4) h (by kernel_rfl))).elim
      · intro h; rw [getD_set_ne false (by decide)] at h; have := er h; first | exact this | exact owns_below this hb | (trace_state; fail)
    · refine StepAt.mk (o := { dst := some 39, op := Op.load 9 (Operand.tmp 38), type := 9, pos := _, after := #[{ on := 4, ground := Ground.data }], guard := none }) (ws := [4]) rfl (by kernel_rfl) ?_
      rintro L b v hC h0 hA ⟨u4, u34, u35, u36, u37, u38, u39, u40, u41, u42, u43, u44, u45, u46, u47, u48, rfl, hHeld, f0, f1, f2, f3, f4, f5, f6, f7, f8, f9, f10, f11, f12, f13, f14, f15, er⟩ K hK
      have g4 := f4 (hA 4 (by simp))
      obtain rfl := g4
      rw [if_pos (by kernel_rfl)]
      have q0 := cellB hHeld c0 hbw2
      have q1 := cellB hHeld c1 hbw2
      go_simp
      try simp only [Act.put, List.setIfInBounds_toArray, List.set_cons_zero, List.set_cons_succ]
      refine hK.out _ _ ⟨_, _, _, _, _, _, _, _, _, _, _, _, _, _, _, _, rfl, ?_, ?_, ?_, ?_, ?_, ?_, ?_, ?_, ?_, ?_, ?_, ?_, ?_, ?_, ?_, ?_, ?_, ?_⟩
      · first | exact hHeld | exact hHeld.trans (hb.mono hHeld.size) | (trace_state; fail)
      · first | exact flag_ne (by decide) f0 | exact fun _ => rfl
      · first | exact flag_ne (by decide) f1 | exact fun _ => rfl
      · first | exact flag_ne (by decide) f2 | exact fun _ => rfl
      · first | exact flag_ne (by decide) f3 | exact fun _ => rfl
      · first | exact flag_ne (by decide) f4 | exact fun _ => rfl
      · intro _; first | rfl | (trace_state; fail)
      · intro h _; rw [getD_set_ne false (by decide)] at h; exact (getD_no h0 (hC.step (j := 6) (k := 5) h (by kernel_rfl))).elim
      · first | exact flag_ne (by decide) f7 | exact fun _ => rfl
      · first | exact flag_ne (by decide) f8 | exact fun _ => rfl
      · first | exact flag_ne (by decide) f9 | exact fun _ => rfl
      · first | exact flag_ne (by decide) f10 | exact fun _ => rfl
      · first | exact flag_ne (by decide) f11 | exact fun _ => rfl
      · first | exact flag_ne (by decide) f12 | exact fun _ => rfl
      · intro h h7; rw [getD_set_ne false (by decide)] at h; rw [getD_set_ne true (by decide)] at h7; have := f13 h h7; obtain ⟨q, e1, e2⟩ := this; exact (by first | exact ⟨q, e1, e2⟩ | exact ⟨q, e1, owns_below e2 hb⟩ | (trace_state; fail))
      · intro h; rw [getD_set_ne false (by decide)] at h; exact (getD_no h0 (hC.step (j := 6) (k := 5) (hC.step (j := 14) (k := 6) h (by kernel_rfl)) (by kernel_rfl))).elim
      · intro h; rw [getD_set_ne false (by decide)] at h; exact (getD_no h0 (hC.step (j := 15) (k := 5) h (by kernel_rfl))).elim
      · intro h; rw [getD_set_ne false (by decide)] at h; have := er h; first | exact this | exact owns_below this hb | (trace_state; fail)
    · refine StepAt.mk (o := { dst := some 40, op := Op.call { callee := Callee.value (Operand.func 38), args := #[Operand.tmp 34, Operand.tmp 39], argTypes := #[23, 9] }, type := 23, pos := _, after := #[{ on := 0, ground := Ground.data }, { on := 5, ground := Ground.data }], guard := none }) (ws := [0, 5]) rfl (by kernel_rfl) ?_
      rintro L b v hC h0 hA ⟨u4, u34, u35, u36, u37, u38, u39, u40, u41, u42, u43, u44, u45, u46, u47, u48, rfl, hHeld, f0, f1, f2, f3, f4, f5, f6, f7, f8, f9, f10, f11, f12, f13, f14, f15, er⟩ K hK
      have g0 := f0 (hA 0 (by simp))
      obtain rfl := g0
      have g5 := f5 (hA 5 (by simp))
      obtain rfl := g5
      rw [if_pos (by kernel_rfl)]
      have q0 := cellB hHeld c0 hbw2
      have q1 := cellB hHeld c1 hbw2
      go_simp
      refine (HTX.out v hHeld).mono ?_; rintro e v1 ⟨r, rfl, HO, hb⟩
      go_wp2_with fail
      try simp only [Act.put, List.setIfInBounds_toArray, List.set_cons_zero, List.set_cons_succ]
      refine hK.out _ _ ⟨_, _, _, _, _, _, _, _, _, _, _, _, _, _, _, _, rfl, ?_, ?_, ?_, ?_, ?_, ?_, ?_, ?_, ?_, ?_, ?_, ?_, ?_, ?_, ?_, ?_, ?_, ?_⟩
      · first | exact hHeld | exact hHeld.trans (hb.mono hHeld.size) | (trace_state; fail)
      · first | exact flag_ne (by decide) f0 | exact fun _ => rfl
      · first | exact flag_ne (by decide) f1 | exact fun _ => rfl
      · first | exact flag_ne (by decide) f2 | exact fun _ => rfl
      · first | exact flag_ne (by decide) f3 | exact fun _ => rfl
      · first | exact flag_ne (by decide) f4 | exact fun _ => rfl
      · first | exact flag_ne (by decide) f5 | exact fun _ => rfl
      · intro _ _; first | (exact own_low HO hHeld.size) | (trace_state; fail)
      · first | exact flag_ne (by decide) f7 | exact fun _ => rfl
      · first | exact flag_ne (by decide) f8 | exact fun _ => rfl
      · first | exact flag_ne (by decide) f9 | exact fun _ => rfl
      · first | exact flag_ne (by decide) f10 | exact fun _ => rfl
      · first | exact flag_ne (by decide) f11 | exact fun _ => rfl
      · first | exact flag_ne (by decide) f12 | exact fun _ => rfl
      · intro h h7; rw [getD_set_ne false (by decide)] at h; rw [getD_set_ne true (by decide)] at h7; have := f13 h h7; obtain ⟨q, e1, e2⟩ := this; exact (by first | exact ⟨q, e1, e2⟩ | exact ⟨q, e1, owns_below e2 hb⟩ | (trace_state; fail))
      · intro h; rw [getD_set_ne false (by decide)] at h; exact (getD_no h0 (hC.step (j := 14) (k := 6) h (by kernel_rfl))).elim
      · intro h; rw [getD_set_ne false (by decide)] at h; exact (getD_no h0 (hC.step (j := 15) (k := 6) h (by kernel_rfl))).elim
      · intro h; rw [getD_set_ne false (by decide)] at h; have := er h; first | exact this | exact owns_below this hb | (trace_state; fail)
    · refine StepAt.mk (o := { dst := some 41, op := Op.move (Operand.tmp 0), type := 40, pos := _, after := #[], guard := none }) (ws := []) rfl (by kernel_rfl) ?_
      rintro L b v hC h0 hA ⟨u4, u34, u35, u36, u37, u38, u39, u40, u41, u42, u43, u44, u45, u46, u47, u48, rfl, hHeld, f0, f1, f2, f3, f4, f5, f6, f7, f8, f9, f10, f11, f12, f13, f14, f15, er⟩ K hK
      rw [if_pos (by kernel_rfl)]
      have q0 := cellB hHeld c0 hbw2
      have q1 := cellB hHeld c1 hbw2
      go_simp
      try simp only [Act.put, List.setIfInBounds_toArray, List.set_cons_zero, List.set_cons_succ]
      refine hK.out _ _ ⟨_, _, _, _, _, _, _, _, _, _, _, _, _, _, _, _, rfl, ?_, ?_, ?_, ?_, ?_, ?_, ?_, ?_, ?_, ?_, ?_, ?_, ?_, ?_, ?_, ?_, ?_, ?_⟩
      · first | exact hHeld | exact hHeld.trans (hb.mono hHeld.size) | (trace_state; fail)
      · first | exact flag_ne (by decide) f0 | exact fun _ => rfl
      · first | exact flag_ne (by decide) f1 | exact fun _ => rfl
      · first | exact flag_ne (by decide) f2 | exact fun _ => rfl
      · first | exact flag_ne (by decide) f3 | exact fun _ => rfl
      · first | exact flag_ne (by decide) f4 | exact fun _ => rfl
      · first | exact flag_ne (by decide) f5 | exact fun _ => rfl
      · intro h h7; rw [getD_set_ne false (by decide)] at h; rw [getD_set_ne true (by decide)] at h7; have := f6 h h7; first | exact this | exact owns_below this hb | (trace_state; fail)
      · intro _; first | rfl | (trace_state; fail)
      · first | exact flag_ne (by decide) f8 | exact fun _ => rfl
      · first | exact flag_ne (by decide) f9 | exact fun _ => rfl
      · first | exact flag_ne (by decide) f10 | exact fun _ => rfl
      · first | exact flag_ne (by decide) f11 | exact fun _ => rfl
      · first | exact flag_ne (by decide) f12 | exact fun _ => rfl
      · intro h _; rw [getD_set_ne false (by decide)] at h; exact (getD_no h0 (hC.step (j := 9) (k := 7) (hC.step (j := 10) (k := 9) (hC.step (j := 11) (k := 10) (hC.step (j := 12) (k := 11) (hC.step (j := 13) (k := 12) h (by kernel_rfl)) (by kernel_rfl)) (by kernel_rfl)) (by kernel_rfl)) (by kernel_rfl))).elim
      · intro h; rw [getD_set_ne false (by decide)] at h; exact (getD_no h0 (hC.step (j := 9) (k := 7) (hC.step (j := 10) (k := 9) (hC.step (j := 11) (k := 10) (hC.step (j := 12) (k := 11) (hC.step (j := 13) (k := 12) (hC.step (j := 14) (k := 13) h (by kernel_rfl)) (by kernel_rfl)) (by kernel_rfl)) (by kernel_rfl)) (by kernel_rfl)) (by kernel_rfl))).elim
      · intro h; rw [getD_set_ne false (by decide)] at h; exact (getD_no h0 (hC.step (j := 15) (k := 7) h (by kernel_rfl))).elim
      · intro h; rw [getD_set_ne false (by decide)] at h; have := er h; first | exact this | exact owns_below this hb | (trace_state; fail)
    · refine StepAt.mk (o := { dst := some 42, op := Op.move (Operand.tmp 5), type := 3, pos := _, after := #[], guard := none }) (ws := []) rfl (by kernel_rfl) ?_
      rintro L b v hC h0 hA ⟨u4, u34, u35, u36, u37, u38, u39, u40, u41, u42, u43, u44, u45, u46, u47, u48, rfl, hHeld, f0, f1, f2, f3, f4, f5, f6, f7, f8, f9, f10, f11, f12, f13, f14, f15, er⟩ K hK
      rw [if_pos (by kernel_rfl)]
      have q0 := cellB hHeld c0 hbw2
      have q1 := cellB hHeld c1 hbw2
      go_simp
      try simp only [Act.put, List.setIfInBounds_toArray, List.set_cons_zero, List.set_cons_succ]
      refine hK.out _ _ ⟨_, _, _, _, _, _, _, _, _, _, _, _, _, _, _, _, rfl, ?_, ?_, ?_, ?_, ?_, ?_, ?_, ?_, ?_, ?_, ?_, ?_, ?_, ?_, ?_, ?_, ?_, ?_⟩
      · first | exact hHeld | exact hHeld.trans (hb.mono hHeld.size) | (trace_state; fail)
      · first | exact flag_ne (by decide) f0 | exact fun _ => rfl
      · first | exact flag_ne (by decide) f1 | exact fun _ => rfl
      · first | exact flag_ne (by decide) f2 | exact fun _ => rfl
      · first | exact flag_ne (by decide) f3 | exact fun _ => rfl
      · first | exact flag_ne (by decide) f4 | exact fun _ => rfl
      · first | exact flag_ne (by decide) f5 | exact fun _ => rfl
      · intro h h7; rw [getD_set_ne false (by decide)] at h; rw [getD_set_ne true (by decide)] at h7; have := f6 h h7; first | exact this | exact owns_below this hb | (trace_state; fail)
      · first | exact flag_ne (by decide) f7 | exact fun _ => rfl
      · intro _; first | rfl | (trace_state; fail)
      · first | exact flag_ne (by decide) f9 | exact fun _ => rfl
      · first | exact flag_ne (by decide) f10 | exact fun _ => rfl
      · first | exact flag_ne (by decide) f11 | exact fun _ => rfl
      · first | exact flag_ne (by decide) f12 | exact fun _ => rfl
      · intro h _; rw [getD_set_ne false (by decide)] at h; exact (getD_no h0 (hC.step (j := 9) (k := 8) (hC.step (j := 10) (k := 9) (hC.step (j := 11) (k := 10) (hC.step (j := 12) (k := 11) (hC.step (j := 13) (k := 12) h (by kernel_rfl)) (by kernel_rfl)) (by kernel_rfl)) (by kernel_rfl)) (by kernel_rfl))).elim
      · intro h; rw [getD_set_ne false (by decide)] at h; exact (getD_no h0 (hC.step (j := 9) (k := 8) (hC.step (j := 10) (k := 9) (hC.step (j := 11) (k := 10) (hC.step (j := 12) (k := 11) (hC.step (j := 13) (k := 12) (hC.step (j := 14) (k := 13) h (by kernel_rfl)) (by kernel_rfl)) (by kernel_rfl)) (by kernel_rfl)) (by kernel_rfl)) (by kernel_rfl))).elim
      · intro h; rw [getD_set_ne false (by decide)] at h; exact (getD_no h0 (hC.step (j := 15) (k := 8) h (by kernel_rfl))).elim
      · intro h; rw [getD_set_ne false (by decide)] at h; have := er h; first | exact this | exact owns_below this hb | (trace_state; fail)
    · refine StepAt.mk (o := { dst := some 43, op := Op.indexAddr 40 (Operand.tmp 41) (Operand.tmp 42), type := 0, pos := _, after := #[{ on := 7, ground := Ground.data }, { on := 8, ground := Ground.data }], guard := none }) (ws := [7, 8]) rfl (by kernel_rfl) ?_
      rintro L b v hC h0 hA ⟨u4, u34, u35, u36, u37, u38, u39, u40, u41, u42, u43, u44, u45, u46, u47, u48, rfl, hHeld, f0, f1, f2, f3, f4, f5, f6, f7, f8, f9, f10, f11, f12, f13, f14, f15, er⟩ K hK
      have g7 := f7 (hA 7 (by simp))
      obtain rfl := g7
      have g8 := f8 (hA 8 (by simp))
      obtain rfl := g8
      rw [if_pos (by kernel_rfl)]
      have q0 := cellB hHeld c0 hbw2
      have q1 := cellB hHeld c1 hbw2
      go_simp
      try simp only [Act.put, List.setIfInBounds_toArray, List.set_cons_zero, List.set_cons_succ]
      refine hK.out _ _ ⟨_, _, _, _, _, _, _, _, _, _, _, _, _, _, _, _, rfl, ?_, ?_, ?_, ?_, ?_, ?_, ?_, ?_, ?_, ?_, ?_, ?_, ?_, ?_, ?_, ?_, ?_, ?_⟩
      · first | exact hHeld | exact hHeld.trans (hb.mono hHeld.size) | (trace_state; fail)
      · first | exact flag_ne (by decide) f0 | exact fun _ => rfl
      · first | exact flag_ne (by decide) f1 | exact fun _ => rfl
      · first | exact flag_ne (by decide) f2 | exact fun _ => rfl
      · first | exact flag_ne (by decide) f3 | exact fun _ => rfl
      · first | exact flag_ne (by decide) f4 | exact fun _ => rfl
      · first | exact flag_ne (by decide) f5 | exact fun _ => rfl
      · intro h h7; rw [getD_set_ne false (by decide)] at h; rw [getD_set_ne true (by decide)] at h7; have := f6 h h7; first | exact this | exact owns_below this hb | (trace_state; fail)
      · first | exact flag_ne (by decide) f7 | exact fun _ => rfl
      · first | exact flag_ne (by decide) f8 | exact fun _ => rfl
      · intro _; first | rfl | (trace_state; fail)
      · first | exact flag_ne (by decide) f10 | exact fun _ => rfl
      · first | exact flag_ne (by decide) f11 | exact fun _ => rfl
      · first | exact flag_ne (by decide) f12 | exact fun _ => rfl
      · intro h _; rw [getD_set_ne false (by decide)] at h; exact (getD_no h0 (hC.step (j := 10) (k := 9) (hC.step (j := 11) (k := 10) (hC.step (j := 12) (k := 11) (hC.step (j := 13) (k := 12) h (by kernel_rfl)) (by kernel_rfl)) (by kernel_rfl)) (by kernel_rfl))).elim
      · intro h; rw [getD_set_ne false (by decide)] at h; exact (getD_no h0 (hC.step (j := 10) (k := 9) (hC.step (j := 11) (k := 10) (hC.step (j := 12) (k := 11) (hC.step (j := 13) (k := 12) (hC.step (j := 14) (k := 13) h (by kernel_rfl)) (by kernel_rfl)) (by kernel_rfl)) (by kernel_rfl)) (by kernel_rfl))).elim
      · intro h; rw [getD_set_ne false (by decide)] at h; exact (getD_no h0 (hC.step (j := 15) (k := 9) h (by kernel_rfl))).elim
      · intro h; rw [getD_set_ne false (by decide)] at h; have := er h; first | exact this | exact owns_below this hb | (trace_state; fail)
    · refine StepAt.mk (o := { dst := some 44, op := Op.fieldAddr 42 (Operand.tmp 43) 1, type := 0, pos := _, after := #[{ on := 9, ground := Ground.data }], guard := none }) (ws := [9]) rfl (by kernel_rfl) ?_
      rintro L b v hC h0 hA ⟨u4, u34, u35, u36, u37, u38, u39, u40, u41, u42, u43, u44, u45, u46, u47, u48, rfl, hHeld, f0, f1, f2, f3, f4, f5, f6, f7, f8, f9, f10, f11, f12, f13, f14, f15, er⟩ K hK
      have g9 := f9 (hA 9 (by simp))
      obtain rfl := g9
      rw [if_pos (by kernel_rfl)]
      have q0 := cellB hHeld c0 hbw2
      have q1 := cellB hHeld c1 hbw2
      go_simp
      try simp only [Act.put, List.setIfInBounds_toArray, List.set_cons_zero, List.set_cons_succ]
      refine hK.out _ _ ⟨_, _, _, _, _, _, _, _, _, _, _, _, _, _, _, _, rfl, ?_, ?_, ?_, ?_, ?_, ?_, ?_, ?_, ?_, ?_, ?_, ?_, ?_, ?_, ?_, ?_, ?_, ?_⟩
      · first | exact hHeld | exact hHeld.trans (hb.mono hHeld.size) | (trace_state; fail)
      · first | exact flag_ne (by decide) f0 | exact fun _ => rfl
      · first | exact flag_ne (by decide) f1 | exact fun _ => rfl
      · first | exact flag_ne (by decide) f2 | exact fun _ => rfl
      · first | exact flag_ne (by decide) f3 | exact fun _ => rfl
      · first | exact flag_ne (by decide) f4 | exact fun _ => rfl
      · first | exact flag_ne (by decide) f5 | exact fun _ => rfl
      · intro h h7; rw [getD_set_ne false (by decide)] at h; rw [getD_set_ne true (by decide)] at h7; have := f6 h h7; first | exact this | exact owns_below this hb | (trace_state; fail)
      · first | exact flag_ne (by decide) f7 | exact fun _ => rfl
      · first | exact flag_ne (by decide) f8 | exact fun _ => rfl
      · first | exact flag_ne (by decide) f9 | exact fun _ => rfl
      · intro _; first | rfl | (trace_state; fail)
      · first | exact flag_ne (by decide) f11 | exact fun _ => rfl
      · first | exact flag_ne (by decide) f12 | exact fun _ => rfl
      · intro h _; rw [getD_set_ne false (by decide)] at h; exact (getD_no h0 (hC.step (j := 11) (k := 10) (hC.step (j := 12) (k := 11) (hC.step (j := 13) (k := 12) h (by kernel_rfl)) (by kernel_rfl)) (by kernel_rfl))).elim
      · intro h; rw [getD_set_ne false (by decide)] at h; exact (getD_no h0 (hC.step (j := 11) (k := 10) (hC.step (j := 12) (k := 11) (hC.step (j := 13) (k := 12) (hC.step (j := 14) (k := 13) h (by kernel_rfl)) (by kernel_rfl)) (by kernel_rfl)) (by kernel_rfl))).elim
      · intro h; rw [getD_set_ne false (by decide)] at h; exact (getD_no h0 (hC.step (j := 15) (k := 10) h (by kernel_rfl))).elim
      · intro h; rw [getD_set_ne false (by decide)] at h; have := er h; first | exact this | exact owns_below this hb | (trace_state; fail)
    · refine StepAt.mk (o := { dst := some 45, op := Op.load 3 (Operand.tmp 44), type := 3, pos := _, after := #[{ on := 10, ground := Ground.data }], guard := none }) (ws := [10]) rfl (by kernel_rfl) ?_
      rintro L b v hC h0 hA ⟨u4, u34, u35, u36, u37, u38, u39, u40, u41, u42, u43, u44, u45, u46, u47, u48, rfl, hHeld, f0, f1, f2, f3, f4, f5, f6, f7, f8, f9, f10, f11, f12, f13, f14, f15, er⟩ K hK
      have g10 := f10 (hA 10 (by simp))
      obtain rfl := g10
      rw [if_pos (by kernel_rfl)]
      have q0 := cellB hHeld c0 hbw2
      have q1 := cellB hHeld c1 hbw2
      go_simp
      try simp only [Act.put, List.setIfInBounds_toArray, List.set_cons_zero, List.set_cons_succ]
      refine hK.out _ _ ⟨_, _, _, _, _, _, _, _, _, _, _, _, _, _, _, _, rfl, ?_, ?_, ?_, ?_, ?_, ?_, ?_, ?_, ?_, ?_, ?_, ?_, ?_, ?_, ?_, ?_, ?_, ?_⟩
      · first | exact hHeld | exact hHeld.trans (hb.mono hHeld.size) | (trace_state; fail)
      · first | exact flag_ne (by decide) f0 | exact fun _ => rfl
      · first | exact flag_ne (by decide) f1 | exact fun _ => rfl
      · first | exact flag_ne (by decide) f2 | exact fun _ => rfl
      · first | exact flag_ne (by decide) f3 | exact fun _ => rfl
      · first | exact flag_ne (by decide) f4 | exact fun _ => rfl
      · first | exact flag_ne (by decide) f5 | exact fun _ => rfl
      · intro h h7; rw [getD_set_ne false (by decide)] at h; rw [getD_set_ne true (by decide)] at h7; have := f6 h h7; first | exact this | exact owns_below this hb | (trace_state; fail)
      · first | exact flag_ne (by decide) f7 | exact fun _ => rfl
      · first | exact flag_ne (by decide) f8 | exact fun _ => rfl
      · first | exact flag_ne (by decide) f9 | exact fun _ => rfl
      · first | exact flag_ne (by decide) f10 | exact fun _ => rfl
      · intro _; first | rfl | (trace_state; fail)
      · first | exact flag_ne (by decide) f12 | exact fun _ => rfl
      · intro h _; rw [getD_set_ne false (by decide)] at h; exact (getD_no h0 (hC.step (j := 12) (k := 11) (hC.step (j := 13) (k := 12) h (by kernel_rfl)) (by kernel_rfl))).elim
      · intro h; rw [getD_set_ne false (by decide)] at h; exact (getD_no h0 (hC.step (j := 12) (k := 11) (hC.step (j := 13) (k := 12) (hC.step (j := 14) (k := 13) h (by kernel_rfl)) (by kernel_rfl)) (by kernel_rfl))).elim
      · intro h; rw [getD_set_ne false (by decide)] at h; exact (getD_no h0 (hC.step (j := 15) (k := 11) h (by kernel_rfl))).elim
      · intro h; rw [getD_set_ne false (by decide)] at h; have := er h; first | exact this | exact owns_below this hb | (trace_state; fail)
    · refine StepAt.mk (o := { dst := some 46, op := Op.convert 3 5 (Operand.tmp 45), type := 5, pos := _, after := #[{ on := 11, ground := Ground.data }], guard := none }) (ws := [11]) rfl (by kernel_rfl) ?_
      rintro L b v hC h0 hA ⟨u4, u34, u35, u36, u37, u38, u39, u40, u41, u42, u43, u44, u45, u46, u47, u48, rfl, hHeld, f0, f1, f2, f3, f4, f5, f6, f7, f8, f9, f10, f11, f12, f13, f14, f15, er⟩ K hK
      have g11 := f11 (hA 11 (by simp))
      obtain rfl := g11
      rw [if_pos (by kernel_rfl)]
      have q0 := cellB hHeld c0 hbw2
      have q1 := cellB hHeld c1 hbw2
      go_simp
      try simp only [Act.put, List.setIfInBounds_toArray, List.set_cons_zero, List.set_cons_succ]
      refine hK.out _ _ ⟨_, _, _, _, _, _, _, _, _, _, _, _, _, _, _, _, rfl, ?_, ?_, ?_, ?_, ?_, ?_, ?_, ?_, ?_, ?_, ?_, ?_, ?_, ?_, ?_, ?_, ?_, ?_⟩
      · first | exact hHeld | exact hHeld.trans (hb.mono hHeld.size) | (trace_state; fail)
      · first | exact flag_ne (by decide) f0 | exact fun _ => rfl
      · first | exact flag_ne (by decide) f1 | exact fun _ => rfl
      · first | exact flag_ne (by decide) f2 | exact fun _ => rfl
      · first | exact flag_ne (by decide) f3 | exact fun _ => rfl
      · first | exact flag_ne (by decide) f4 | exact fun _ => rfl
      · first | exact flag_ne (by decide) f5 | exact fun _ => rfl
      · intro h h7; rw [getD_set_ne false (by decide)] at h; rw [getD_set_ne true (by decide)] at h7; have := f6 h h7; first | exact this | exact owns_below this hb | (trace_state; fail)
      · first | exact flag_ne (by decide) f7 | exact fun _ => rfl
      · first | exact flag_ne (by decide) f8 | exact fun _ => rfl
      · first | exact flag_ne (by decide) f9 | exact fun _ => rfl
      · first | exact flag_ne (by decide) f10 | exact fun _ => rfl
      · first | exact flag_ne (by decide) f11 | exact fun _ => rfl
      · intro _; first | rfl | (trace_state; fail)
      · intro h _; rw [getD_set_ne false (by decide)] at h; exact (getD_no h0 (hC.step (j := 13) (k := 12) h (by kernel_rfl))).elim
      · intro h; rw [getD_set_ne false (by decide)] at h; exact (getD_no h0 (hC.step (j := 13) (k := 12) (hC.step (j := 14) (k := 13) h (by kernel_rfl)) (by kernel_rfl))).elim
      · intro h; rw [getD_set_ne false (by decide)] at h; exact (getD_no h0 (hC.step (j := 15) (k := 12) h (by kernel_rfl))).elim
      · intro h; rw [getD_set_ne false (by decide)] at h; have := er h; first | exact this | exact owns_below this hb | (trace_state; fail)
    · refine StepAt.mk (o := { dst := some 47, op := Op.buildSlice 23 1 #[(0, Operand.tmp 46)], type := 23, pos := _, after := #[{ on := 12, ground := Ground.data }], guard := none }) (ws := [12]) rfl (by kernel_rfl) ?_
      rintro L b v hC h0 hA ⟨u4, u34, u35, u36, u37, u38, u39, u40, u41, u42, u43, u44, u45, u46, u47, u48, rfl, hHeld, f0, f1, f2, f3, f4, f5, f6, f7, f8, f9, f10, f11, f12, f13, f14, f15, er⟩ K hK
      have g12 := f12 (hA 12 (by simp))
      obtain rfl := g12
      rw [if_pos (by kernel_rfl)]
      have q0 := cellB hHeld c0 hbw2
      have q1 := cellB hHeld c1 hbw2
      go_simp
      try simp only [Act.put, List.setIfInBounds_toArray, List.set_cons_zero, List.set_cons_succ]
      have hb : Below v.heap.size v (v.alloc (.cells #[.int .u8 (x.kind % 256)] 5)) := (Below.refl _ _).alloc (Nat.le_refl _) _
      refine hK.out _ _ ⟨_, _, _, _, _, _, _, _, _, _, _, _, _, _, _, _, rfl, ?_, ?_, ?_, ?_, ?_, ?_, ?_, ?_, ?_, ?_, ?_, ?_, ?_, ?_, ?_, ?_, ?_, ?_⟩
      · first | exact hHeld | exact hHeld.trans (hb.mono hHeld.size) | (trace_state; fail)
      · first | exact flag_ne (by decide) f0 | exact fun _ => rfl
      · first | exact flag_ne (by decide) f1 | exact fun _ => rfl
      · first | exact flag_ne (by decide) f2 | exact fun _ => rfl
      · first | exact flag_ne (by decide) f3 | exact fun _ => rfl
      · first | exact flag_ne (by decide) f4 | exact fun _ => rfl
      · first | exact flag_ne (by decide) f5 | exact fun _ => rfl
      · intro h h7; rw [getD_set_ne false (by decide)] at h; rw [getD_set_ne true (by decide)] at h7; have := f6 h h7; first | exact this | exact owns_below this hb | (trace_state; fail)
      · first | exact flag_ne (by decide) f7 | exact fun _ => rfl
      · first | exact flag_ne (by decide) f8 | exact fun _ => rfl
      · first | exact flag_ne (by decide) f9 | exact fun _ => rfl
      · first | exact flag_ne (by decide) f10 | exact fun _ => rfl
      · first | exact flag_ne (by decide) f11 | exact fun _ => rfl
      · first | exact flag_ne (by decide) f12 | exact fun _ => rfl
      · intro _ _; first | (exact ⟨_, rfl, owns_u8 _ _ hHeld.size⟩) | (trace_state; fail)
      · intro h; rw [getD_set_ne false (by decide)] at h; exact (getD_no h0 (hC.step (j := 14) (k := 13) h (by kernel_rfl))).elim
      · intro h; rw [getD_set_ne false (by decide)] at h; exact (getD_no h0 (hC.step (j := 15) (k := 13) h (by kernel_rfl))).elim
      · intro h; rw [getD_set_ne false (by decide)] at h; have := er h; first | exact this | exact owns_below this hb | (trace_state; fail)
    · refine StepAt.mk (o := { dst := some 48, op := Op.call { callee := Callee.builtin Builtin.append, args := #[Operand.tmp 40, Operand.tmp 47], argTypes := #[23, 23] }, type := 23, pos := _, after := #[{ on := 6, ground := Ground.data }, { on := 13, ground := Ground.data }, { on := 6, ground := Ground.chain }], guard := none }) (ws := [6, 13, 6]) rfl (by kernel_rfl) ?_
      rintro L b v hC h0 hA ⟨u4, u34, u35, u36, u37, u38, u39, u40, u41, u42, u43, u44, u45, u46, u47, u48, rfl, hHeld, f0, f1, f2, f3, f4, f5, f6, f7, f8, f9, f10, f11, f12, f13, f14, f15, er⟩ K hK
      have g6 := f6 (hA 6 (by simp)) h0
      have g13 := f13 (hA 13 (by simp)) h0
      rw [if_pos (by kernel_rfl)]
      have q0 := cellB hHeld c0 hbw2
      have q1 := cellB hHeld c1 hbw2
      obtain ⟨q13, rfl, H13⟩ := g13; refine wp_append_src (.tmp 40) (.tmp 47) 23 rfl wr.heap.size 5 i (.int .u8 0) 1 1 Try.underlying23 hi hz hsize hby rfl (by omega) u40 M _ rfl g6 _ 1 _ rfl (src_own H13) rfl (by intro u hu; simp at hu; rw [hu]; rfl) (by unfold maxLen; omega) (by omega) hHeld.size ?_; intro v' w' HO hG
      try simp only [Act.put, List.setIfInBounds_toArray, List.set_cons_zero, List.set_cons_succ]
      refine hK.out _ _ ⟨_, _, _, _, _, _, _, _, _, _, _, _, _, _, _, _, rfl, ?_, ?_, ?_, ?_, ?_, ?_, ?_, ?_, ?_, ?_, ?_, ?_, ?_, ?_, ?_, ?_, ?_, ?_⟩
      · exact grown3 hHeld hHeld.size g6 hG
      · first | exact flag_ne (by decide) f0 | exact fun _ => rfl
      · first | exact flag_ne (by decide) f1 | exact fun _ => rfl
      · first | exact flag_ne (by decide) f2 | exact fun _ => rfl
      · first | exact flag_ne (by decide) f3 | exact fun _ => rfl
      · first | exact flag_ne (by decide) f4 | exact fun _ => rfl
      · first | exact flag_ne (by decide) f5 | exact fun _ => rfl
      · intro _ h7; rw [getD_set_self] at h7; cases h7
      · first | exact flag_ne (by decide) f7 | exact fun _ => rfl
      · first | exact flag_ne (by decide) f8 | exact fun _ => rfl
      · first | exact flag_ne (by decide) f9 | exact fun _ => rfl
      · first | exact flag_ne (by decide) f10 | exact fun _ => rfl
      · first | exact flag_ne (by decide) f11 | exact fun _ => rfl
      · first | exact flag_ne (by decide) f12 | exact fun _ => rfl
      · intro _ h7; rw [getD_set_self] at h7; cases h7
      · intro _; first | exact HO | (trace_state; fail)
      · intro h; rw [getD_set_ne false (by decide)] at h; exact (getD_no h0 (hC.step (j := 15) (k := 14) h (by kernel_rfl))).elim
      · intro h; rw [getD_set_ne false (by decide)] at h; have := er h; first | exact this | exact owns_below this hb | (trace_state; fail)
    · refine StepAt.mk (o := { dst := some 4, op := Op.assign (Operand.tmp 48), type := 23, pos := _, after := #[{ on := 14, ground := Ground.data }, { on := 14, ground := Ground.chain }, { on := 0, ground := Ground.phase }, { on := 1, ground := Ground.phase }, { on := 2, ground := Ground.phase }, { on := 3, ground := Ground.phase }, { on := 4, ground := Ground.phase }, { on := 5, ground := Ground.phase }, { on := 6, ground := Ground.phase }, { on := 7, ground := Ground.phase }, { on := 8, ground := Ground.phase }, { on := 9, ground := Ground.phase }, { on := 10, ground := Ground.phase }, { on := 11, ground := Ground.phase }, { on := 12, ground := Ground.phase }, { on := 13, ground := Ground.phase }, { on := 14, ground := Ground.phase }], guard := none }) (ws := [14, 14, 0, 1, 2, 3, 4, 5, 6, 7, 8, 9, 10, 11, 12, 13, 14]) rfl (by kernel_rfl) ?_
      rintro L b v hC h0 hA ⟨u4, u34, u35, u36, u37, u38, u39, u40, u41, u42, u43, u44, u45, u46, u47, u48, rfl, hHeld, f0, f1, f2, f3, f4, f5, f6, f7, f8, f9, f10, f11, f12, f13, f14, f15, er⟩ K hK
      have g14 := f14 (hA 14 (by simp))
      have g0 := f0 (hA 0 (by simp))
      obtain rfl := g0
      have g1 := f1 (hA 1 (by simp))
      obtain rfl := g1
      have g2 := f2 (hA 2 (by simp))
      obtain rfl := g2
      have g3 := f3 (hA 3 (by simp))
      obtain rfl := g3
      have g4 := f4 (hA 4 (by simp))
      obtain rfl := g4
      have g5 := f5 (hA 5 (by simp))
      obtain rfl := g5
      have g6 := f6 (hA 6 (by simp))
      have g7 := f7 (hA 7 (by simp))
      obtain rfl := g7
      have g8 := f8 (hA 8 (by simp))
      obtain rfl := g8
      have g9 := f9 (hA 9 (by simp))
      obtain rfl := g9
      have g10 := f10 (hA 10 (by simp))
      obtain rfl := g10
      have g11 := f11 (hA 11 (by simp))
      obtain rfl := g11
      have g12 := f12 (hA 12 (by simp))
      obtain rfl := g12
      have g13 := f13 (hA 13 (by simp))
      rw [if_pos (by kernel_rfl)]
      have q0 := cellB hHeld c0 hbw2
      have q1 := cellB hHeld c1 hbw2
      go_simp
      try simp only [Act.put, List.setIfInBounds_toArray, List.set_cons_zero, List.set_cons_succ]
      refine hK.out _ _ ⟨_, _, _, _, _, _, _, _, _, _, _, _, _, _, _, _, rfl, ?_, ?_, ?_, ?_, ?_, ?_, ?_, ?_, ?_, ?_, ?_, ?_, ?_, ?_, ?_, ?_, ?_, ?_⟩
      · first | exact hHeld | exact hHeld.trans (hb.mono hHeld.size) | (trace_state; fail)
      · first | exact flag_ne (by decide) f0 | exact fun _ => rfl
      · first | exact flag_ne (by decide) f1 | exact fun _ => rfl
      · first | exact flag_ne (by decide) f2 | exact fun _ => rfl
      · first | exact flag_ne (by decide) f3 | exact fun _ => rfl
      · first | exact flag_ne (by decide) f4 | exact fun _ => rfl
      · first | exact flag_ne (by decide) f5 | exact fun _ => rfl
      · intro h h7; rw [getD_set_ne false (by decide)] at h; rw [getD_set_ne true (by decide)] at h7; have := f6 h h7; first | exact this | exact owns_below this hb | (trace_state; fail)
      · first | exact flag_ne (by decide) f7 | exact fun _ => rfl
      · first | exact flag_ne (by decide) f8 | exact fun _ => rfl
      · first | exact flag_ne (by decide) f9 | exact fun _ => rfl
      · first | exact flag_ne (by decide) f10 | exact fun _ => rfl
      · first | exact flag_ne (by decide) f11 | exact fun _ => rfl
      · first | exact flag_ne (by decide) f12 | exact fun _ => rfl
      · intro h h7; rw [getD_set_ne false (by decide)] at h; rw [getD_set_ne true (by decide)] at h7; have := f13 h h7; obtain ⟨q, e1, e2⟩ := this; exact (by first | exact ⟨q, e1, e2⟩ | exact ⟨q, e1, owns_below e2 hb⟩ | (trace_state; fail))
      · intro h; rw [getD_set_ne false (by decide)] at h; have := f14 h; first | exact this | exact owns_below this hb | (trace_state; fail)
      · intro _; first | exact g14 | (trace_state; fail)
      · intro h; rw [getD_set_done h0] at h; cases h
  rintro L b v hA ⟨u4, u34, u35, u36, u37, u38, u39, u40, u41, u42, u43, u44, u45, u46, u47, u48, rfl, hHeld, f0, f1, f2, f3, f4, f5, f6, f7, f8, f9, f10, f11, f12, f13, f14, f15, er⟩
  clear er
  have g0 := f0 (hA 0 (by omega))
  clear f0
  obtain rfl := g0
  have g1 := f1 (hA 1 (by omega))
  clear f1
  obtain rfl := g1
  have g2 := f2 (hA 2 (by omega))
  clear f2
  obtain rfl := g2
  have g3 := f3 (hA 3 (by omega))
  clear f3
  obtain rfl := g3
  have g4 := f4 (hA 4 (by omega))
  clear f4
  obtain rfl := g4
  have g5 := f5 (hA 5 (by omega))
  clear f5
  obtain rfl := g5
  clear f6
  have g7 := f7 (hA 7 (by omega))
  clear f7
  obtain rfl := g7
  have g8 := f8 (hA 8 (by omega))
  clear f8
  obtain rfl := g8
  have g9 := f9 (hA 9 (by omega))
  clear f9
  obtain rfl := g9
  have g10 := f10 (hA 10 (by omega))
  clear f10
  obtain rfl := g10
  have g11 := f11 (hA 11 (by omega))
  clear f11
  obtain rfl := g11
  have g12 := f12 (hA 12 (by omega))
  clear f12
  obtain rfl := g12
  clear f13
  have g14 := f14 (hA 14 (by omega))
  clear f14
  have g15 := f15 (hA 15 (by omega))
  clear f15
  clear hA
  exact ⟨rfl, _, _, _, _, _, _, _, _, _, _, _, _, _, _, _, _, rfl, hHeld, g15⟩
end Go.Proofs.Ytdpcfcflcfjmjaa
