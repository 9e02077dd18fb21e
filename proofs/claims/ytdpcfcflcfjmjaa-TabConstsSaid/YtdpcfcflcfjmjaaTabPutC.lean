/- Layer 14: a constant's row as bytes. -/
import Derived.Test.YtdpcfcflcfjmjaaRdCst
import Derived.Test.YtdpcfcflcfjmjaaTabB
namespace Go.Proofs.Ytdpcfcflcfjmjaa
open Go.RowKit
set_option linter.unusedSimpArgs false
set_option linter.unusedVariables false
set_option maxHeartbeats 4000000 in
theorem putConst_r1 (W0 : World) (g : Nat) (x : Int × Int) (h1 : I64 x.1) (C0 : W0.cell? ⟨g, 0, none⟩ = some (.int .i64 x.1)) (C1 : W0.cell? ⟨g, 1, none⟩ = some (.int .i64 x.2)) (hg : g < W0.heap.size) (t4 t5 t6 t7 t8 t9 t10 t11 t12 t13 t14 : Value) :
    (Code.region 1 #[{ dst := some 4, op := Op.fieldAddr 50 (Operand.tmp 1) 0, type := 0, pos := "tab.go:74", after := #[], guard := none }, { dst := some 5, op := Op.load 3 (Operand.tmp 4), type := 3, pos := "tab.go:74", after := #[{ on := 0, ground := Ground.data }], guard := none }, { dst := some 6, op := Op.buildSlice 75 1 #[(0, Operand.tmp 5)], type := 75, pos := "tab.go:74", after := #[{ on := 1, ground := Ground.data }], guard := none }, { dst := some 7, op := Op.call { callee := Callee.value (Operand.func 25), args := #[Operand.tmp 6], argTypes := #[75] }, type := 23, pos := "tab.go:74", after := #[{ on := 2, ground := Ground.data }], guard := none }, { dst := some 8, op := Op.fieldAddr 50 (Operand.tmp 1) 1, type := 0, pos := "tab.go:74", after := #[], guard := none }, { dst := some 9, op := Op.load 3 (Operand.tmp 8), type := 3, pos := "tab.go:74", after := #[{ on := 4, ground := Ground.data }], guard := none }, { dst := some 10, op := Op.call { callee := Callee.value (Operand.func 24), args := #[Operand.tmp 7, Operand.const (Value.int IntKind.i64 8), Operand.tmp 9], argTypes := #[23, 3, 3] }, type := 23, pos := "tab.go:74", after := #[{ on := 3, ground := Ground.data }, { on := 5, ground := Ground.data }, { on := 3, ground := Ground.chain }], guard := none }, { dst := some 11, op := Op.fieldAddr 50 (Operand.tmp 1) 0, type := 0, pos := "tab.go:74", after := #[], guard := none }, { dst := some 12, op := Op.load 3 (Operand.tmp 11), type := 3, pos := "tab.go:74", after := #[{ on := 7, ground := Ground.data }], guard := none }, { dst := some 13, op := Op.buildSlice 75 1 #[(0, Operand.tmp 12)], type := 75, pos := "tab.go:74", after := #[{ on := 8, ground := Ground.data }], guard := none }, { dst := some 14, op := Op.call { callee := Callee.value (Operand.func 26), args := #[Operand.tmp 13], argTypes := #[75] }, type := 4, pos := "tab.go:74", after := #[{ on := 9, ground := Ground.data }, { on := 6, ground := Ground.chain }], guard := none }, { dst := some 2, op := Op.assign (Operand.tmp 10), type := 23, pos := "tab.go:74", after := #[{ on := 6, ground := Ground.data }, { on := 10, ground := Ground.chain }, { on := 0, ground := Ground.phase }, { on := 1, ground := Ground.phase }, { on := 2, ground := Ground.phase }, { on := 3, ground := Ground.phase }, { on := 4, ground := Ground.phase }, { on := 5, ground := Ground.phase }, { on := 6, ground := Ground.phase }, { on := 7, ground := Ground.textOnly Departure.lateStores }, { on := 8, ground := Ground.textOnly Departure.lateStores }, { on := 9, ground := Ground.textOnly Departure.lateStores }, { on := 10, ground := Ground.textOnly Departure.lateStoresUnsure }], guard := none }, { dst := some 3, op := Op.assign (Operand.tmp 14), type := 4, pos := "tab.go:74", after := #[{ on := 10, ground := Ground.data }, { on := 11, ground := Ground.chain }, { on := 0, ground := Ground.phase }, { on := 1, ground := Ground.phase }, { on := 2, ground := Ground.phase }, { on := 3, ground := Ground.phase }, { on := 4, ground := Ground.phase }, { on := 5, ground := Ground.phase }, { on := 6, ground := Ground.phase }, { on := 7, ground := Ground.phase }, { on := 8, ground := Ground.phase }, { on := 9, ground := Ground.phase }, { on := 10, ground := Ground.phase }, { on := 11, ground := Ground.phase }], guard := none }] true).wp Try.prog (fun e b v => e = Exit.normal ∧ ∃ u2 u3 u4 u5 u6 u7 u8 u9 u10 u11 u12 u13 u14 : Value, b = ⟨#[.agg #[.int .i64 x.1, .int .i64 x.2], .pointer (some ⟨g, 0, none⟩), u2, u3, u4, u5, u6, u7, u8, u9, u10, u11, u12, u13, u14], []⟩ ∧ Below W0.heap.size W0 v ∧ v.ownsRow W0.heap.size 5 1 u2 9 (bytesV (cstL x)) ∧ u3 = .bool (fitB x.1)) ⟨#[.agg #[.int .i64 x.1, .int .i64 x.2], .pointer (some ⟨g, 0, none⟩), .slice none 0 0, .bool false, t4, t5, t6, t7, t8, t9, t10, t11, t12, t13, t14], []⟩ W0 := by
  refine wp_region_facts (n := 13) (fun L b v => ∃ u2 u3 u4 u5 u6 u7 u8 u9 u10 u11 u12 u13 u14 : Value, b = ⟨#[.agg #[.int .i64 x.1, .int .i64 x.2], .pointer (some ⟨g, 0, none⟩), u2, u3, u4, u5, u6, u7, u8, u9, u10, u11, u12, u13, u14], []⟩ ∧ Below W0.heap.size W0 v ∧ (L.getD 0 false = true → u4 = .pointer (some ⟨g, 0, none⟩)) ∧ (L.getD 1 false = true → u5 = .int .i64 x.1) ∧ (L.getD 2 false = true → ∃ q, u6 = .slice (some ⟨q, 0, none⟩) 1 1 ∧ v.ownsRow W0.heap.size 3 1 (.slice (some ⟨q, 0, none⟩) 1 1) 1 [.int .i64 x.1]) ∧ (L.getD 3 false = true → v.ownsRow W0.heap.size 5 1 u7 1 (bytesV [byteO x.1])) ∧ (L.getD 4 false = true → u8 = .pointer (some ⟨g, 1, none⟩)) ∧ (L.getD 5 false = true → u9 = .int .i64 x.2) ∧ (L.getD 6 false = true → v.ownsRow W0.heap.size 5 1 u10 9 (bytesV (cstL x))) ∧ (L.getD 7 false = true → u11 = .pointer (some ⟨g, 0, none⟩)) ∧ (L.getD 8 false = true → u12 = .int .i64 x.1) ∧ (L.getD 9 false = true → ∃ q, u13 = .slice (some ⟨q, 0, none⟩) 1 1 ∧ v.ownsRow W0.heap.size 3 1 (.slice (some ⟨q, 0, none⟩) 1 1) 1 [.int .i64 x.1]) ∧ (L.getD 10 false = true → u14 = .bool (fitB x.1)) ∧ (L.getD 11 false = true → v.ownsRow W0.heap.size 5 1 u2 9 (bytesV (cstL x))) ∧ (L.getD 12 false = true → u3 = .bool (fitB x.1))) (by kernel_rfl) (by kernel_rfl) (by kernel_rfl) ?_ ?_ ?_
  · refine ⟨_, _, _, _, _, _, _, _, _, _, _, _, _, rfl, (Below.refl _ _).drew, flag_new, flag_new, flag_new, flag_new, flag_new, flag_new, flag_new, flag_new, flag_new, flag_new, flag_new, flag_new, flag_new⟩
  · refine AllSteps.succ (AllSteps.succ (AllSteps.succ (AllSteps.succ (AllSteps.succ (AllSteps.succ (AllSteps.succ (AllSteps.succ (AllSteps.succ (AllSteps.succ (AllSteps.succ (AllSteps.succ (AllSteps.succ AllSteps.zero ?_) ?_) ?_) ?_) ?_) ?_) ?_) ?_) ?_) ?_) ?_) ?_) ?_
    · refine StepAt.mk (o := { dst := some 4, op := Op.fieldAddr 50 (Operand.tmp 1) 0, type := 0, pos := _, after := #[], guard := none }) (ws := []) rfl (by kernel_rfl) ?_
      rintro L b v hC h0 hA ⟨u2, u3, u4, u5, u6, u7, u8, u9, u10, u11, u12, u13, u14, rfl, hHeld, f0, f1, f2, f3, f4, f5, f6, f7, f8, f9, f10, f11, f12⟩ K hK
      rw [if_pos (by kernel_rfl)]
      have q0 := cellB hHeld C0 hg
      have q1 := cellB hHeld C1 hg
      go_simp
      try simp only [Act.put, List.setIfInBounds_toArray, List.set_cons_zero, List.set_cons_succ]
      refine hK.out _ _ ⟨_, _, _, _, _, _, _, _, _, _, _, _, _, rfl, ?_, ?_, ?_, ?_, ?_, ?_, ?_, ?_, ?_, ?_, ?_, ?_, ?_, ?_⟩
      · first | exact hHeld | exact hHeld.trans (hb.mono hHeld.size) | (trace_state; fail)
      · intro _; first | rfl | (trace_state; fail)
      · first | exact flag_ne (by decide) f1 | exact fun _ => rfl
      · intro h; rw [getD_set_ne false (by decide)] at h; exact (getD_no h0 (hC.step (j := 1) (k := 0) (hC.step (j := 2) (k := 1) h (by kernel_rfl)) (by kernel_rfl))).elim
      · intro h; rw [getD_set_ne false (by decide)] at h; exact (getD_no h0 (hC.step (j := 1) (k := 0) (hC.step (j := 2) (k := 1) (hC.step (j := 3) (k := 2) h (by kernel_rfl)) (by kernel_rfl)) (by kernel_rfl))).elim
      · first | exact flag_ne (by decide) f4 | exact fun _ => rfl
      · first | exact flag_ne (by decide) f5 | exact fun _ => rfl
      · intro h; rw [getD_set_ne false (by decide)] at h; exact (getD_no h0 (hC.step (j := 1) (k := 0) (hC.step (j := 2) (k := 1) (hC.step (j := 3) (k := 2) (hC.step (j := 6) (k := 3) h (by kernel_rfl)) (by kernel_rfl)) (by kernel_rfl)) (by kernel_rfl))).elim
      · first | exact flag_ne (by decide) f7 | exact fun _ => rfl
      · first | exact flag_ne (by decide) f8 | exact fun _ => rfl
      · intro h; rw [getD_set_ne false (by decide)] at h; have := f9 h; obtain ⟨q, e1, e2⟩ := this; exact (by first | exact ⟨q, e1, e2⟩ | exact ⟨q, e1, owns_below e2 hb⟩ | (trace_state; fail))
      · first | exact flag_ne (by decide) f10 | exact fun _ => rfl
      · intro h; rw [getD_set_ne false (by decide)] at h; exact (getD_no h0 (hC.step (j := 11) (k := 0) h (by kernel_rfl))).elim
      · first | exact flag_ne (by decide) f12 | exact fun _ => rfl
    · refine StepAt.mk (o := { dst := some 5, op := Op.load 3 (Operand.tmp 4), type := 3, pos := _, after := #[{ on := 0, ground := Ground.data }], guard := none }) (ws := [0]) rfl (by kernel_rfl) ?_
      rintro L b v hC h0 hA ⟨u2, u3, u4, u5, u6, u7, u8, u9, u10, u11, u12, u13, u14, rfl, hHeld, f0, f1, f2, f3, f4, f5, f6, f7, f8, f9, f10, f11, f12⟩ K hK
      have g0 := f0 (hA 0 (by simp))
      obtain rfl := g0
      rw [if_pos (by kernel_rfl)]
      have q0 := cellB hHeld C0 hg
      have q1 := cellB hHeld C1 hg
      go_simp
      try simp only [Act.put, List.setIfInBounds_toArray, List.set_cons_zero, List.set_cons_succ]
      refine hK.out _ _ ⟨_, _, _, _, _, _, _, _, _, _, _, _, _, rfl, ?_, ?_, ?_, ?_, ?_, ?_, ?_, ?_, ?_, ?_, ?_, ?_, ?_, ?_⟩
      · first | exact hHeld | exact hHeld.trans (hb.mono hHeld.size) | (trace_state; fail)
      · first | exact flag_ne (by decide) f0 | exact fun _ => rfl
      · intro _; first | rfl | (trace_state; fail)
      · intro h; rw [getD_set_ne false (by decide)] at h; exact (getD_no h0 (hC.step (j := 2) (k := 1) h (by kernel_rfl))).elim
      · intro h; rw [getD_set_ne false (by decide)] at h; exact (getD_no h0 (hC.step (j := 2) (k := 1) (hC.step (j := 3) (k := 2) h (by kernel_rfl)) (by kernel_rfl))).elim
      · first | exact flag_ne (by decide) f4 | exact fun _ => rfl
      · first | exact flag_ne (by decide) f5 | exact fun _ => rfl
      · intro h; rw [getD_set_ne false (by decide)] at h; exact (getD_no h0 (hC.step (j := 2) (k := 1) (hC.step (j := 3) (k := 2) (hC.step (j := 6) (k := 3) h (by kernel_rfl)) (by kernel_rfl)) (by kernel_rfl))).elim
      · first | exact flag_ne (by decide) f7 | exact fun _ => rfl
      · first | exact flag_ne (by decide) f8 | exact fun _ => rfl
      · intro h; rw [getD_set_ne false (by decide)] at h; have := f9 h; obtain ⟨q, e1, e2⟩ := this; exact (by first | exact ⟨q, e1, e2⟩ | exact ⟨q, e1, owns_below e2 hb⟩ | (trace_state; fail))
      · first | exact flag_ne (by decide) f10 | exact fun _ => rfl
      · intro h; rw [getD_set_ne false (by decide)] at h; exact (getD_no h0 (hC.step (j := 11) (k := 1) h (by kernel_rfl))).elim
      · first | exact flag_ne (by decide) f12 | exact fun _ => rfl
    · refine StepAt.mk (o := { dst := some 6, op := Op.buildSlice 75 1 #[(0, Operand.tmp 5)], type := 75, pos := _, after := #[{ on := 1, ground := Ground.data }], guard := none }) (ws := [1]) rfl (by kernel_rfl) ?_
      rintro L b v hC h0 hA ⟨u2, u3, u4, u5, u6, u7, u8, u9, u10, u11, u12, u13, u14, rfl, hHeld, f0, f1, f2, f3, f4, f5, f6, f7, f8, f9, f10, f11, f12⟩ K hK
      have g1 := f1 (hA 1 (by simp))
      obtain rfl := g1
      rw [if_pos (by kernel_rfl)]
      have q0 := cellB hHeld C0 hg
      have q1 := cellB hHeld C1 hg
      go_simp
      try simp only [Act.put, List.setIfInBounds_toArray, List.set_cons_zero, List.set_cons_succ]
      have hb : Below v.heap.size v (v.alloc (.cells #[.int .i64 x.1] 3)) := (Below.refl _ _).alloc (Nat.le_refl _) _
      refine hK.out _ _ ⟨_, _, _, _, _, _, _, _, _, _, _, _, _, rfl, ?_, ?_, ?_, ?_, ?_, ?_, ?_, ?_, ?_, ?_, ?_, ?_, ?_, ?_⟩
      · first | exact hHeld | exact hHeld.trans (hb.mono hHeld.size) | (trace_state; fail)
      · first | exact flag_ne (by decide) f0 | exact fun _ => rfl
      · first | exact flag_ne (by decide) f1 | exact fun _ => rfl
      · intro _; first | exact ⟨_, rfl, owns_int1 _ x.1 hHeld.size⟩ | (trace_state; fail)
      · intro h; rw [getD_set_ne false (by decide)] at h; exact (getD_no h0 (hC.step (j := 3) (k := 2) h (by kernel_rfl))).elim
      · first | exact flag_ne (by decide) f4 | exact fun _ => rfl
      · first | exact flag_ne (by decide) f5 | exact fun _ => rfl
      · intro h; rw [getD_set_ne false (by decide)] at h; exact (getD_no h0 (hC.step (j := 3) (k := 2) (hC.step (j := 6) (k := 3) h (by kernel_rfl)) (by kernel_rfl))).elim
      · first | exact flag_ne (by decide) f7 | exact fun _ => rfl
      · first | exact flag_ne (by decide) f8 | exact fun _ => rfl
      · intro h; rw [getD_set_ne false (by decide)] at h; have := f9 h; obtain ⟨q, e1, e2⟩ := this; exact (by first | exact ⟨q, e1, e2⟩ | exact ⟨q, e1, owns_below e2 hb⟩ | (trace_state; fail))
      · first | exact flag_ne (by decide) f10 | exact fun _ => rfl
      · intro h; rw [getD_set_ne false (by decide)] at h; exact (getD_no h0 (hC.step (j := 11) (k := 2) h (by kernel_rfl))).elim
      · first | exact flag_ne (by decide) f12 | exact fun _ => rfl
    · refine StepAt.mk (o := { dst := some 7, op := Op.call { callee := Callee.value (Operand.func 25), args := #[Operand.tmp 6], argTypes := #[75] }, type := 23, pos := _, after := #[{ on := 2, ground := Ground.data }], guard := none }) (ws := [2]) rfl (by kernel_rfl) ?_
      rintro L b v hC h0 hA ⟨u2, u3, u4, u5, u6, u7, u8, u9, u10, u11, u12, u13, u14, rfl, hHeld, f0, f1, f2, f3, f4, f5, f6, f7, f8, f9, f10, f11, f12⟩ K hK
      have g2 := f2 (hA 2 (by simp))
      obtain ⟨q6, rfl, H6⟩ := g2
      rw [if_pos (by kernel_rfl)]
      have q0 := cellB hHeld C0 hg
      have q1 := cellB hHeld C1 hg
      go_simp
      refine (tab_bytesOf _ [x.1] v (row_of_owns H6 (fun z hz => by simp at hz; exact hz ▸ h1)) (by simp)).mono ?_; rintro e v1 ⟨r, rfl, HO, hb⟩
      go_wp2_with fail
      try simp only [Act.put, List.setIfInBounds_toArray, List.set_cons_zero, List.set_cons_succ]
      refine hK.out _ _ ⟨_, _, _, _, _, _, _, _, _, _, _, _, _, rfl, ?_, ?_, ?_, ?_, ?_, ?_, ?_, ?_, ?_, ?_, ?_, ?_, ?_, ?_⟩
      · first | exact hHeld | exact hHeld.trans (hb.mono hHeld.size) | (trace_state; fail)
      · first | exact flag_ne (by decide) f0 | exact fun _ => rfl
      · first | exact flag_ne (by decide) f1 | exact fun _ => rfl
      · intro h; rw [getD_set_ne false (by decide)] at h; have := f2 h; obtain ⟨q, e1, e2⟩ := this; exact (by first | exact ⟨q, e1, e2⟩ | exact ⟨q, e1, owns_below e2 hb⟩ | (trace_state; fail))
      · intro _; first | exact own_low HO hHeld.size | (trace_state; fail)
      · first | exact flag_ne (by decide) f4 | exact fun _ => rfl
      · first | exact flag_ne (by decide) f5 | exact fun _ => rfl
      · intro h; rw [getD_set_ne false (by decide)] at h; exact (getD_no h0 (hC.step (j := 6) (k := 3) h (by kernel_rfl))).elim
      · first | exact flag_ne (by decide) f7 | exact fun _ => rfl
      · first | exact flag_ne (by decide) f8 | exact fun _ => rfl
      · intro h; rw [getD_set_ne false (by decide)] at h; have := f9 h; obtain ⟨q, e1, e2⟩ := this; exact (by first | exact ⟨q, e1, e2⟩ | exact ⟨q, e1, owns_below e2 hb⟩ | (trace_state; fail))
      · first | exact flag_ne (by decide) f10 | exact fun _ => rfl
      · intro h; rw [getD_set_ne false (by decide)] at h; exact (getD_no h0 (hC.step (j := 11) (k := 3) h (by kernel_rfl))).elim
      · first | exact flag_ne (by decide) f12 | exact fun _ => rfl
    · refine StepAt.mk (o := { dst := some 8, op := Op.fieldAddr 50 (Operand.tmp 1) 1, type := 0, pos := _, after := #[], guard := none }) (ws := []) rfl (by kernel_rfl) ?_
      rintro L b v hC h0 hA ⟨u2, u3, u4, u5, u6, u7, u8, u9, u10, u11, u12, u13, u14, rfl, hHeld, f0, f1, f2, f3, f4, f5, f6, f7, f8, f9, f10, f11, f12⟩ K hK
      rw [if_pos (by kernel_rfl)]
      have q0 := cellB hHeld C0 hg
      have q1 := cellB hHeld C1 hg
      go_simp
      try simp only [Act.put, List.setIfInBounds_toArray, List.set_cons_zero, List.set_cons_succ]
      refine hK.out _ _ ⟨_, _, _, _, _, _, _, _, _, _, _, _, _, rfl, ?_, ?_, ?_, ?_, ?_, ?_, ?_, ?_, ?_, ?_, ?_, ?_, ?_, ?_⟩
      · first | exact hHeld | exact hHeld.trans (hb.mono hHeld.size) | (trace_state; fail)
      · first | exact flag_ne (by decide) f0 | exact fun _ => rfl
      · first | exact flag_ne (by decide) f1 | exact fun _ => rfl
      · intro h; rw [getD_set_ne false (by decide)] at h; have := f2 h; obtain ⟨q, e1, e2⟩ := this; exact (by first | exact ⟨q, e1, e2⟩ | exact ⟨q, e1, owns_below e2 hb⟩ | (trace_state; fail))
      · intro h; rw [getD_set_ne false (by decide)] at h; have := f3 h; first | exact this | exact owns_below this hb | (trace_state; fail)
      · intro _; first | rfl | (trace_state; fail)
      · first | exact flag_ne (by decide) f5 | exact fun _ => rfl
      · intro h; rw [getD_set_ne false (by decide)] at h; exact (getD_no h0 (hC.step (j := 5) (k := 4) (hC.step (j := 6) (k := 5) h (by kernel_rfl)) (by kernel_rfl))).elim
      · first | exact flag_ne (by decide) f7 | exact fun _ => rfl
      · first | exact flag_ne (by decide) f8 | exact fun _ => rfl
      · intro h; rw [getD_set_ne false (by decide)] at h; have := f9 h; obtain ⟨q, e1, e2⟩ := this; exact (by first | exact ⟨q, e1, e2⟩ | exact ⟨q, e1, owns_below e2 hb⟩ | (trace_state; fail))
      · first | exact flag_ne (by decide) f10 | exact fun _ => rfl
      · intro h; rw [getD_set_ne false (by decide)] at h; exact (getD_no h0 (hC.step (j := 11) (k := 4) h (by kernel_rfl))).elim
      · first | exact flag_ne (by decide) f12 | exact fun _ => rfl
    · refine StepAt.mk (o := { dst := some 9, op := Op.load 3 (Operand.tmp 8), type := 3, pos := _, after := #[{ on := 4, ground := Ground.data }], guard := none }) (ws := [4]) rfl (by kernel_rfl) ?_
      rintro L b v hC h0 hA ⟨u2, u3, u4, u5, u6, u7, u8, u9, u10, u11, u12, u13, u14, rfl, hHeld, f0, f1, f2, f3, f4, f5, f6, f7, f8, f9, f10, f11, f12⟩ K hK
      have g4 := f4 (hA 4 (by simp))
      obtain rfl := g4
      rw [if_pos (by kernel_rfl)]
      have q0 := cellB hHeld C0 hg
      have q1 := cellB hHeld C1 hg
      go_simp
      try simp only [Act.put, List.setIfInBounds_toArray, List.set_cons_zero, List.set_cons_succ]
      refine hK.out _ _ ⟨_, _, _, _, _, _, _, _, _, _, _, _, _, rfl, ?_, ?_, ?_, ?_, ?_, ?_, ?_, ?_, ?_, ?_, ?_, ?_, ?_, ?_⟩
      · first | exact hHeld | exact hHeld.trans (hb.mono hHeld.size) | (trace_state; fail)
      · first | exact flag_ne (by decide) f0 | exact fun _ => rfl
      · first | exact flag_ne (by decide) f1 | exact fun _ => rfl
      · intro h; rw [getD_set_ne false (by decide)] at h; have := f2 h; obtain ⟨q, e1, e2⟩ := this; exact (by first | exact ⟨q, e1, e2⟩ | exact ⟨q, e1, owns_below e2 hb⟩ | (trace_state; fail))
      · intro h; rw [getD_set_ne false (by decide)] at h; have := f3 h; first | exact this | exact owns_below this hb | (trace_state; fail)
      · first | exact flag_ne (by decide) f4 | exact fun _ => rfl
      · intro _; first | rfl | (trace_state; fail)
      · intro h; rw [getD_set_ne false (by decide)] at h; exact (getD_no h0 (hC.step (j := 6) (k := 5) h (by kernel_rfl))).elim
      · first | exact flag_ne (by decide) f7 | exact fun _ => rfl
      · first | exact flag_ne (by decide) f8 | exact fun _ => rfl
      · intro h; rw [getD_set_ne false (by decide)] at h; have := f9 h; obtain ⟨q, e1, e2⟩ := this; exact (by first | exact ⟨q, e1, e2⟩ | exact ⟨q, e1, owns_below e2 hb⟩ | (trace_state; fail))
      · first | exact flag_ne (by decide) f10 | exact fun _ => rfl
      · intro h; rw [getD_set_ne false (by decide)] at h; exact (getD_no h0 (hC.step (j := 11) (k := 5) h (by kernel_rfl))).elim
      · first | exact flag_ne (by decide) f12 | exact fun _ => rfl
    · refine StepAt.mk (o := { dst := some 10, op := Op.call { callee := Callee.value (Operand.func 24), args := #[Operand.tmp 7, Operand.const (Value.int IntKind.i64 8), Operand.tmp 9], argTypes := #[23, 3, 3] }, type := 23, pos := _, after := #[{ on := 3, ground := Ground.data }, { on := 5, ground := Ground.data }, { on := 3, ground := Ground.chain }], guard := none }) (ws := [3, 5, 3]) rfl (by kernel_rfl) ?_
      rintro L b v hC h0 hA ⟨u2, u3, u4, u5, u6, u7, u8, u9, u10, u11, u12, u13, u14, rfl, hHeld, f0, f1, f2, f3, f4, f5, f6, f7, f8, f9, f10, f11, f12⟩ K hK
      have g3 := f3 (hA 3 (by simp))
      have g5 := f5 (hA 5 (by simp))
      obtain rfl := g5
      rw [if_pos (by kernel_rfl)]
      have q0 := cellB hHeld C0 hg
      have q1 := cellB hHeld C1 hg
      go_simp
      refine (octet_Put u7 [byteO x.1] 8 x.2 v (RowAt.owns g3 (fun i hi => byteV_at hi)) (by simp)).mono ?_; rintro e v1 ⟨r, rfl, HO, hb⟩
      go_wp2_with fail
      try simp only [Act.put, List.setIfInBounds_toArray, List.set_cons_zero, List.set_cons_succ]
      refine hK.out _ _ ⟨_, _, _, _, _, _, _, _, _, _, _, _, _, rfl, ?_, ?_, ?_, ?_, ?_, ?_, ?_, ?_, ?_, ?_, ?_, ?_, ?_, ?_⟩
      · first | exact hHeld | exact hHeld.trans (hb.mono hHeld.size) | (trace_state; fail)
      · first | exact flag_ne (by decide) f0 | exact fun _ => rfl
      · first | exact flag_ne (by decide) f1 | exact fun _ => rfl
      · intro h; rw [getD_set_ne false (by decide)] at h; have := f2 h; obtain ⟨q, e1, e2⟩ := this; exact (by first | exact ⟨q, e1, e2⟩ | exact ⟨q, e1, owns_below e2 hb⟩ | (trace_state; fail))
      · intro h; rw [getD_set_ne false (by decide)] at h; have := f3 h; first | exact this | exact owns_below this hb | (trace_state; fail)
      · first | exact flag_ne (by decide) f4 | exact fun _ => rfl
      · first | exact flag_ne (by decide) f5 | exact fun _ => rfl
      · intro _; first | exact own_low HO hHeld.size | (trace_state; fail)
      · first | exact flag_ne (by decide) f7 | exact fun _ => rfl
      · first | exact flag_ne (by decide) f8 | exact fun _ => rfl
      · intro h; rw [getD_set_ne false (by decide)] at h; have := f9 h; obtain ⟨q, e1, e2⟩ := this; exact (by first | exact ⟨q, e1, e2⟩ | exact ⟨q, e1, owns_below e2 hb⟩ | (trace_state; fail))
      · first | exact flag_ne (by decide) f10 | exact fun _ => rfl
      · intro h; rw [getD_set_ne false (by decide)] at h; exact (getD_no h0 (hC.step (j := 11) (k := 6) h (by kernel_rfl))).elim
      · first | exact flag_ne (by decide) f12 | exact fun _ => rfl
    · refine StepAt.mk (o := { dst := some 11, op := Op.fieldAddr 50 (Operand.tmp 1) 0, type := 0, pos := _, after := #[], guard := none }) (ws := []) rfl (by kernel_rfl) ?_
      rintro L b v hC h0 hA ⟨u2, u3, u4, u5, u6, u7, u8, u9, u10, u11, u12, u13, u14, rfl, hHeld, f0, f1, f2, f3, f4, f5, f6, f7, f8, f9, f10, f11, f12⟩ K hK
      rw [if_pos (by kernel_rfl)]
      have q0 := cellB hHeld C0 hg
      have q1 := cellB hHeld C1 hg
      go_simp
      try simp only [Act.put, List.setIfInBounds_toArray, List.set_cons_zero, List.set_cons_succ]
      refine hK.out _ _ ⟨_, _, _, _, _, _, _, _, _, _, _, _, _, rfl, ?_, ?_, ?_, ?_, ?_, ?_, ?_, ?_, ?_, ?_, ?_, ?_, ?_, ?_⟩
      · first | exact hHeld | exact hHeld.trans (hb.mono hHeld.size) | (trace_state; fail)
      · first | exact flag_ne (by decide) f0 | exact fun _ => rfl
      · first | exact flag_ne (by decide) f1 | exact fun _ => rfl
      · intro h; rw [getD_set_ne false (by decide)] at h; have := f2 h; obtain ⟨q, e1, e2⟩ := this; exact (by first | exact ⟨q, e1, e2⟩ | exact ⟨q, e1, owns_below e2 hb⟩ | (trace_state; fail))
      · intro h; rw [getD_set_ne false (by decide)] at h; have := f3 h; first | exact this | exact owns_below this hb | (trace_state; fail)
      · first | exact flag_ne (by decide) f4 | exact fun _ => rfl
      · first | exact flag_ne (by decide) f5 | exact fun _ => rfl
      · intro h; rw [getD_set_ne false (by decide)] at h; have := f6 h; first | exact this | exact owns_below this hb | (trace_state; fail)
      · intro _; first | rfl | (trace_state; fail)
      · first | exact flag_ne (by decide) f8 | exact fun _ => rfl
      · intro h; rw [getD_set_ne false (by decide)] at h; exact (getD_no h0 (hC.step (j := 8) (k := 7) (hC.step (j := 9) (k := 8) h (by kernel_rfl)) (by kernel_rfl))).elim
      · first | exact flag_ne (by decide) f10 | exact fun _ => rfl
      · intro h; rw [getD_set_ne false (by decide)] at h; exact (getD_no h0 (hC.step (j := 8) (k := 7) (hC.step (j := 9) (k := 8) (hC.step (j := 10) (k := 9) (hC.step (j := 11) (k := 10) h (by kernel_rfl)) (by kernel_rfl)) (by kernel_rfl)) (by kernel_rfl))).elim
      · first | exact flag_ne (by decide) f12 | exact fun _ => rfl
    · refine StepAt.mk (o := { dst := some 12, op := Op.load 3 (Operand.tmp 11), type := 3, pos := _, after := #[{ on := 7, ground := Ground.data }], guard := none }) (ws := [7]) rfl (by kernel_rfl) ?_
      rintro L b v hC h0 hA ⟨u2, u3, u4, u5, u6, u7, u8, u9, u10, u11, u12, u13, u14, rfl, hHeld, f0, f1, f2, f3, f4, f5, f6, f7, f8, f9, f10, f11, f12⟩ K hK
      have g7 := f7 (hA 7 (by simp))
      obtain rfl := g7
      rw [if_pos (by kernel_rfl)]
      have q0 := cellB hHeld C0 hg
      have q1 := cellB hHeld C1 hg
      go_simp
      try simp only [Act.put, List.setIfInBounds_toArray, List.set_cons_zero, List.set_cons_succ]
      refine hK.out _ _ ⟨_, _, _, _, _, _, _, _, _, _, _, _, _, rfl, ?_, ?_, ?_, ?_, ?_, ?_, ?_, ?_, ?_, ?_, ?_, ?_, ?_, ?_⟩
      · first | exact hHeld | exact hHeld.trans (hb.mono hHeld.size) | (trace_state; fail)
      · first | exact flag_ne (by decide) f0 | exact fun _ => rfl
      · first | exact flag_ne (by decide) f1 | exact fun _ => rfl
      · intro h; rw [getD_set_ne false (by decide)] at h; have := f2 h; obtain ⟨q, e1, e2⟩ := this; exact (by first | exact ⟨q, e1, e2⟩ | exact ⟨q, e1, owns_below e2 hb⟩ | (trace_state; fail))
      · intro h; rw [getD_set_ne false (by decide)] at h; have := f3 h; first | exact this | exact owns_below this hb | (trace_state; fail)
      · first | exact flag_ne (by decide) f4 | exact fun _ => rfl
      · first | exact flag_ne (by decide) f5 | exact fun _ => rfl
      · intro h; rw [getD_set_ne false (by decide)] at h; have := f6 h; first | exact this | exact owns_below this hb | (trace_state; fail)
      · first | exact flag_ne (by decide) f7 | exact fun _ => rfl
      · intro _; first | rfl | (trace_state; fail)
      · intro h; rw [getD_set_ne false (by decide)] at h; exact (getD_no h0 (hC.step (j := 9) (k := 8) h (by kernel_rfl))).elim
      · first | exact flag_ne (by decide) f10 | exact fun _ => rfl
      · intro h; rw [getD_set_ne false (by decide)] at h; exact (getD_no h0 (hC.step (j := 9) (k := 8) (hC.step (j := 10) (k := 9) (hC.step (j := 11) (k := 10) h (by kernel_rfl)) (by kernel_rfl)) (by kernel_rfl))).elim
      · first | exact flag_ne (by decide) f12 | exact fun _ => rfl
    · refine StepAt.mk (o := { dst := some 13, op := Op.buildSlice 75 1 #[(0, Operand.tmp 12)], type := 75, pos := _, after := #[{ on := 8, ground := Ground.data }], guard := none }) (ws := [8]) rfl (by kernel_rfl) ?_
      rintro L b v hC h0 hA ⟨u2, u3, u4, u5, u6, u7, u8, u9, u10, u11, u12, u13, u14, rfl, hHeld, f0, f1, f2, f3, f4, f5, f6, f7, f8, f9, f10, f11, f12⟩ K hK
      have g8 := f8 (hA 8 (by simp))
      obtain rfl := g8
      rw [if_pos (by kernel_rfl)]
      have q0 := cellB hHeld C0 hg
      have q1 := cellB hHeld C1 hg
      go_simp
      try simp only [Act.put, List.setIfInBounds_toArray, List.set_cons_zero, List.set_cons_succ]
      have hb : Below v.heap.size v (v.alloc (.cells #[.int .i64 x.1] 3)) := (Below.refl _ _).alloc (Nat.le_refl _) _
      refine hK.out _ _ ⟨_, _, _, _, _, _, _, _, _, _, _, _, _, rfl, ?_, ?_, ?_, ?_, ?_, ?_, ?_, ?_, ?_, ?_, ?_, ?_, ?_, ?_⟩
      · first | exact hHeld | exact hHeld.trans (hb.mono hHeld.size) | (trace_state; fail)
      · first | exact flag_ne (by decide) f0 | exact fun _ => rfl
      · first | exact flag_ne (by decide) f1 | exact fun _ => rfl
      · intro h; rw [getD_set_ne false (by decide)] at h; have := f2 h; obtain ⟨q, e1, e2⟩ := this; exact (by first | exact ⟨q, e1, e2⟩ | exact ⟨q, e1, owns_below e2 hb⟩ | (trace_state; fail))
      · intro h; rw [getD_set_ne false (by decide)] at h; have := f3 h; first | exact this | exact owns_below this hb | (trace_state; fail)
      · first | exact flag_ne (by decide) f4 | exact fun _ => rfl
      · first | exact flag_ne (by decide) f5 | exact fun _ => rfl
      · intro h; rw [getD_set_ne false (by decide)] at h; have := f6 h; first | exact this | exact owns_below this hb | (trace_state; fail)
      · first | exact flag_ne (by decide) f7 | exact fun _ => rfl
      · first | exact flag_ne (by decide) f8 | exact fun _ => rfl
      · intro _; first | exact ⟨_, rfl, owns_int1 _ x.1 hHeld.size⟩ | (trace_state; fail)
      · first | exact flag_ne (by decide) f10 | exact fun _ => rfl
      · intro h; rw [getD_set_ne false (by decide)] at h; exact (getD_no h0 (hC.step (j := 10) (k := 9) (hC.step (j := 11) (k := 10) h (by kernel_rfl)) (by kernel_rfl))).elim
      · first | exact flag_ne (by decide) f12 | exact fun _ => rfl
    · refine StepAt.mk (o := { dst := some 14, op := Op.call { callee := Callee.value (Operand.func 26), args := #[Operand.tmp 13], argTypes := #[75] }, type := 4, pos := _, after := #[{ on := 9, ground := Ground.data }, { on := 6, ground := Ground.chain }], guard := none }) (ws := [9, 6]) rfl (by kernel_rfl) ?_
      rintro L b v hC h0 hA ⟨u2, u3, u4, u5, u6, u7, u8, u9, u10, u11, u12, u13, u14, rfl, hHeld, f0, f1, f2, f3, f4, f5, f6, f7, f8, f9, f10, f11, f12⟩ K hK
      have g9 := f9 (hA 9 (by simp))
      obtain ⟨q13, rfl, H13⟩ := g9
      have g6 := f6 (hA 6 (by simp))
      rw [if_pos (by kernel_rfl)]
      have q0 := cellB hHeld C0 hg
      have q1 := cellB hHeld C1 hg
      go_simp
      refine (tab_fits _ [x.1] v (row_of_owns H13 (fun z hz => by simp at hz; exact hz ▸ h1))).mono ?_; rintro e v1 ⟨rfl, m, rfl⟩; have hb : Below v.heap.size v (v.drewN m) := Below_drewN _ _ _; rw [show [x.1].all fitB = fitB x.1 by simp]
      go_wp2_with fail
      try simp only [Act.put, List.setIfInBounds_toArray, List.set_cons_zero, List.set_cons_succ]
      refine hK.out _ _ ⟨_, _, _, _, _, _, _, _, _, _, _, _, _, rfl, ?_, ?_, ?_, ?_, ?_, ?_, ?_, ?_, ?_, ?_, ?_, ?_, ?_, ?_⟩
      · first | exact hHeld | exact hHeld.trans (hb.mono hHeld.size) | (trace_state; fail)
      · first | exact flag_ne (by decide) f0 | exact fun _ => rfl
      · first | exact flag_ne (by decide) f1 | exact fun _ => rfl
      · intro h; rw [getD_set_ne false (by decide)] at h; have := f2 h; obtain ⟨q, e1, e2⟩ := this; exact (by first | exact ⟨q, e1, e2⟩ | exact ⟨q, e1, owns_below e2 hb⟩ | (trace_state; fail))
      · intro h; rw [getD_set_ne false (by decide)] at h; have := f3 h; first | exact this | exact owns_below this hb | (trace_state; fail)
      · first | exact flag_ne (by decide) f4 | exact fun _ => rfl
      · first | exact flag_ne (by decide) f5 | exact fun _ => rfl
      · intro h; rw [getD_set_ne false (by decide)] at h; have := f6 h; first | exact this | exact owns_below this hb | (trace_state; fail)
      · first | exact flag_ne (by decide) f7 | exact fun _ => rfl
      · first | exact flag_ne (by decide) f8 | exact fun _ => rfl
      · intro h; rw [getD_set_ne false (by decide)] at h; have := f9 h; obtain ⟨q, e1, e2⟩ := this; exact (by first | exact ⟨q, e1, e2⟩ | exact ⟨q, e1, owns_below e2 hb⟩ | (trace_state; fail))
      · intro _; first | rfl | (trace_state; fail)
      · intro h; rw [getD_set_ne false (by decide)] at h; exact (getD_no h0 (hC.step (j := 11) (k := 10) h (by kernel_rfl))).elim
      · first | exact flag_ne (by decide) f12 | exact fun _ => rfl
    · refine StepAt.mk (o := { dst := some 2, op := Op.assign (Operand.tmp 10), type := 23, pos := _, after := #[{ on := 6, ground := Ground.data }, { on := 10, ground := Ground.chain }, { on := 0, ground := Ground.phase }, { on := 1, ground := Ground.phase }, { on := 2, ground := Ground.phase }, { on := 3, ground := Ground.phase }, { on := 4, ground := Ground.phase }, { on := 5, ground := Ground.phase }, { on := 6, ground := Ground.phase }, { on := 7, ground := Ground.textOnly Departure.lateStores }, { on := 8, ground := Ground.textOnly Departure.lateStores }, { on := 9, ground := Ground.textOnly Departure.lateStores }, { on := 10, ground := Ground.textOnly Departure.lateStoresUnsure }], guard := none }) (ws := [6, 10, 0, 1, 2, 3, 4, 5, 6]) rfl (by kernel_rfl) ?_
      rintro L b v hC h0 hA ⟨u2, u3, u4, u5, u6, u7, u8, u9, u10, u11, u12, u13, u14, rfl, hHeld, f0, f1, f2, f3, f4, f5, f6, f7, f8, f9, f10, f11, f12⟩ K hK
      have g6 := f6 (hA 6 (by simp))
      have g10 := f10 (hA 10 (by simp))
      obtain rfl := g10
      have g0 := f0 (hA 0 (by simp))
      obtain rfl := g0
      have g1 := f1 (hA 1 (by simp))
      obtain rfl := g1
      have g2 := f2 (hA 2 (by simp))
      obtain ⟨q6, rfl, H6⟩ := g2
      have g3 := f3 (hA 3 (by simp))
      have g4 := f4 (hA 4 (by simp))
      obtain rfl := g4
      have g5 := f5 (hA 5 (by simp))
      obtain rfl := g5
      rw [if_pos (by kernel_rfl)]
      have q0 := cellB hHeld C0 hg
      have q1 := cellB hHeld C1 hg
      go_simp
      try simp only [Act.put, List.setIfInBounds_toArray, List.set_cons_zero, List.set_cons_succ]
      refine hK.out _ _ ⟨_, _, _, _, _, _, _, _, _, _, _, _, _, rfl, ?_, ?_, ?_, ?_, ?_, ?_, ?_, ?_, ?_, ?_, ?_, ?_, ?_, ?_⟩
      · first | exact hHeld | exact hHeld.trans (hb.mono hHeld.size) | (trace_state; fail)
      · first | exact flag_ne (by decide) f0 | exact fun _ => rfl
      · first | exact flag_ne (by decide) f1 | exact fun _ => rfl
      · intro h; rw [getD_set_ne false (by decide)] at h; have := f2 h; obtain ⟨q, e1, e2⟩ := this; exact (by first | exact ⟨q, e1, e2⟩ | exact ⟨q, e1, owns_below e2 hb⟩ | (trace_state; fail))
      · intro h; rw [getD_set_ne false (by decide)] at h; have := f3 h; first | exact this | exact owns_below this hb | (trace_state; fail)
      · first | exact flag_ne (by decide) f4 | exact fun _ => rfl
      · first | exact flag_ne (by decide) f5 | exact fun _ => rfl
      · intro h; rw [getD_set_ne false (by decide)] at h; have := f6 h; first | exact this | exact owns_below this hb | (trace_state; fail)
      · first | exact flag_ne (by decide) f7 | exact fun _ => rfl
      · first | exact flag_ne (by decide) f8 | exact fun _ => rfl
      · intro h; rw [getD_set_ne false (by decide)] at h; have := f9 h; obtain ⟨q, e1, e2⟩ := this; exact (by first | exact ⟨q, e1, e2⟩ | exact ⟨q, e1, owns_below e2 hb⟩ | (trace_state; fail))
      · first | exact flag_ne (by decide) f10 | exact fun _ => rfl
      · intro _; first | exact g6 | (trace_state; fail)
      · first | exact flag_ne (by decide) f12 | exact fun _ => rfl
    · refine StepAt.mk (o := { dst := some 3, op := Op.assign (Operand.tmp 14), type := 4, pos := _, after := #[{ on := 10, ground := Ground.data }, { on := 11, ground := Ground.chain }, { on := 0, ground := Ground.phase }, { on := 1, ground := Ground.phase }, { on := 2, ground := Ground.phase }, { on := 3, ground := Ground.phase }, { on := 4, ground := Ground.phase }, { on := 5, ground := Ground.phase }, { on := 6, ground := Ground.phase }, { on := 7, ground := Ground.phase }, { on := 8, ground := Ground.phase }, { on := 9, ground := Ground.phase }, { on := 10, ground := Ground.phase }, { on := 11, ground := Ground.phase }], guard := none }) (ws := [10, 11, 0, 1, 2, 3, 4, 5, 6, 7, 8, 9, 10, 11]) rfl (by kernel_rfl) ?_
      rintro L b v hC h0 hA ⟨u2, u3, u4, u5, u6, u7, u8, u9, u10, u11, u12, u13, u14, rfl, hHeld, f0, f1, f2, f3, f4, f5, f6, f7, f8, f9, f10, f11, f12⟩ K hK
      have g10 := f10 (hA 10 (by simp))
      obtain rfl := g10
      have g11 := f11 (hA 11 (by simp))
      have g0 := f0 (hA 0 (by simp))
      obtain rfl := g0
      have g1 := f1 (hA 1 (by simp))
      obtain rfl := g1
      have g2 := f2 (hA 2 (by simp))
      obtain ⟨q6, rfl, H6⟩ := g2
      have g3 := f3 (hA 3 (by simp))
      have g4 := f4 (hA 4 (by simp))
      obtain rfl := g4
      have g5 := f5 (hA 5 (by simp))
      obtain rfl := g5
      have g6 := f6 (hA 6 (by simp))
      have g7 := f7 (hA 7 (by simp))
      obtain rfl := g7
      have g8 := f8 (hA 8 (by simp))
      obtain rfl := g8
      have g9 := f9 (hA 9 (by simp))
      obtain ⟨q13, rfl, H13⟩ := g9
      rw [if_pos (by kernel_rfl)]
      have q0 := cellB hHeld C0 hg
      have q1 := cellB hHeld C1 hg
      go_simp
      try simp only [Act.put, List.setIfInBounds_toArray, List.set_cons_zero, List.set_cons_succ]
      refine hK.out _ _ ⟨_, _, _, _, _, _, _, _, _, _, _, _, _, rfl, ?_, ?_, ?_, ?_, ?_, ?_, ?_, ?_, ?_, ?_, ?_, ?_, ?_, ?_⟩
      · first | exact hHeld | exact hHeld.trans (hb.mono hHeld.size) | (trace_state; fail)
      · first | exact flag_ne (by decide) f0 | exact fun _ => rfl
      · first | exact flag_ne (by decide) f1 | exact fun _ => rfl
      · intro h; rw [getD_set_ne false (by decide)] at h; have := f2 h; obtain ⟨q, e1, e2⟩ := this; exact (by first | exact ⟨q, e1, e2⟩ | exact ⟨q, e1, owns_below e2 hb⟩ | (trace_state; fail))
      · intro h; rw [getD_set_ne false (by decide)] at h; have := f3 h; first | exact this | exact owns_below this hb | (trace_state; fail)
      · first | exact flag_ne (by decide) f4 | exact fun _ => rfl
      · first | exact flag_ne (by decide) f5 | exact fun _ => rfl
      · intro h; rw [getD_set_ne false (by decide)] at h; have := f6 h; first | exact this | exact owns_below this hb | (trace_state; fail)
      · first | exact flag_ne (by decide) f7 | exact fun _ => rfl
      · first | exact flag_ne (by decide) f8 | exact fun _ => rfl
      · intro h; rw [getD_set_ne false (by decide)] at h; have := f9 h; obtain ⟨q, e1, e2⟩ := this; exact (by first | exact ⟨q, e1, e2⟩ | exact ⟨q, e1, owns_below e2 hb⟩ | (trace_state; fail))
      · first | exact flag_ne (by decide) f10 | exact fun _ => rfl
      · intro h; rw [getD_set_ne false (by decide)] at h; have := f11 h; first | exact this | exact owns_below this hb | (trace_state; fail)
      · intro _; first | rfl | (trace_state; fail)
  rintro L b v hA ⟨u2, u3, u4, u5, u6, u7, u8, u9, u10, u11, u12, u13, u14, rfl, hHeld, f0, f1, f2, f3, f4, f5, f6, f7, f8, f9, f10, f11, f12⟩
  have g0 := f0 (hA 0 (by omega))
  clear f0
  obtain rfl := g0
  have g1 := f1 (hA 1 (by omega))
  clear f1
  obtain rfl := g1
  have g2 := f2 (hA 2 (by omega))
  clear f2
  obtain ⟨q6, rfl, H6⟩ := g2
  have g3 := f3 (hA 3 (by omega))
  clear f3
  have g4 := f4 (hA 4 (by omega))
  clear f4
  obtain rfl := g4
  have g5 := f5 (hA 5 (by omega))
  clear f5
  obtain rfl := g5
  have g6 := f6 (hA 6 (by omega))
  clear f6
  have g7 := f7 (hA 7 (by omega))
  clear f7
  obtain rfl := g7
  have g8 := f8 (hA 8 (by omega))
  clear f8
  obtain rfl := g8
  have g9 := f9 (hA 9 (by omega))
  clear f9
  obtain ⟨q13, rfl, H13⟩ := g9
  have g10 := f10 (hA 10 (by omega))
  clear f10
  obtain rfl := g10
  have g11 := f11 (hA 11 (by omega))
  clear f11
  have g12 := f12 (hA 12 (by omega))
  clear f12
  obtain rfl := g12
  clear hA
  exact ⟨rfl, _, _, _, _, _, _, _, _, _, _, _, _, _, rfl, hHeld, g11, rfl⟩
theorem tab_PutConst (x : Int × Int) (w : World) (h1 : I64 x.1) :
    Calls Try.prog 23 #[.agg #[.int .i64 x.1, .int .i64 x.2]] w fun e w' => ∃ r, e = .returned (.tuple #[r, .bool (cstOk x)]) ∧ w'.ownsRow (w.heap.size + 1) 5 1 r 9 (bytesV (cstL x)) ∧ Below w.heap.size w w' := by
  go_enter Try.func23, Try.ntmps23
  go_wp2
  obtain ⟨W0, hW0⟩ : ∃ W0, W0 = w.alloc (.cells #[.int .i64 x.1, .int .i64 x.2] 50) := ⟨_, rfl⟩
  have bx := Boxed.new w [.int .i64 x.1, .int .i64 x.2] 50 (Below.refl _ _)
  have C0 := bx 0 _ rfl
  have C1 := bx 1 _ rfl
  clear bx
  rw [← hW0] at C0 C1
  have hz0 : w.heap.size < W0.heap.size := by rw [hW0]; simp
  have hz1 : W0.heap.size = w.heap.size + 1 := by rw [hW0]; simp
  rw [← hW0]
  refine Code.wp_mono ?_ (putConst_r1 W0 w.heap.size x h1 C0 C1 hz0 _ _ _ _ _ _ _ _ _ _ _)
  rintro e b v ⟨rfl, u2, u3, u4, u5, u6, u7, u8, u9, u10, u11, u12, u13, u14, rfl, hHeld, g11, rfl⟩
  go_wp2_with fail
  go_returns
  exact ⟨_, rfl, by rw [← hz1]; exact g11, Below.trans (by rw [hW0]; exact (Below.refl _ _).alloc (Nat.le_refl _) _) (hHeld.mono (by omega))⟩
end Go.Proofs.Ytdpcfcflcfjmjaa
