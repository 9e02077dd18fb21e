/- Layer 14: the reference's table of constants as bytes. -/
import Derived.Test.YtdpcfcflcfjmjaaTabPutD
import Derived.Test.YtdpcfcflcfjmjaaTabRef
import Derived.Test.YtdpcfcflcfjmjaaOctetRef
namespace Go.Proofs.Ytdpcfcflcfjmjaa
open Go.RowKit
set_option linter.unusedSimpArgs false
set_option linter.unusedVariables false
theorem putL_one (z : Int) : putL (near8 1).toNat z = [byteO z] := by
  have : (near8 1).toNat = 1 := by decide
  rw [this]
  show [byteAt z 0] = [byteO z]
  unfold byteAt byteO
  simp
theorem ref03_Put1 (v : Value) (l : List UInt8) (z : Int) (w : World) (hv : RowAt w v l.length (byteV l)) (hm : l.length ≤ 100000000) :
    Calls Try.prog 27 #[v, .int .i64 1, .int .i64 z] w fun e w' => ∃ r, e = .returned r ∧ w'.ownsRow w.heap.size 5 1 r (l ++ [byteO z]).length (bytesV (l ++ [byteO z])) ∧ Below w.heap.size w w' := by
  have h := ref03_Put v l 1 z w hv hm
  rw [putL_one, show (near8 1).toNat = 1 from by decide] at h
  rw [List.length_append, List.length_singleton]
  exact h
theorem ref03_Put8 (v : Value) (l : List UInt8) (z : Int) (w : World) (hv : RowAt w v l.length (byteV l)) (hm : l.length ≤ 100000000) :
    Calls Try.prog 27 #[v, .int .i64 8, .int .i64 z] w fun e w' => ∃ r, e = .returned r ∧ w'.ownsRow w.heap.size 5 1 r (l ++ putL 8 z).length (bytesV (l ++ putL 8 z)) ∧ Below w.heap.size w w' := by
  have h := ref03_Put v l 8 z w hv hm
  rw [show (near8 8).toNat = 8 from by decide] at h
  rw [List.length_append, putL_len]
  exact h
set_option maxHeartbeats 4000000 in
theorem refCsts_r9 (wr : World) (n ca bk off k : Nat) (x : Int × Int) (r0 : Value) (l : List UInt8) (c0 : wr.cell? ⟨bk, off + k * 2, none⟩ = some (.int .i64 x.1)) (c1 : wr.cell? ⟨bk, off + k * 2 + 1, none⟩ = some (.int .i64 x.2)) (hbw2 : bk < wr.heap.size) (HL : Hid (∀ W, Below wr.heap.size wr W → RowAt W r0 l.length (byteV l))) (hll : l.length ≤ 1000000) (hlt : k < n) (hni : n ≤ 1024) (t1 t2 t3 t6 t7 t8 t9 t10 t11 t12 t13 t14 t15 t16 t17 t18 t19 t20 t21 t22 t23 t24 t25 t26 t27 t28 t29 t30 t31 t32 t33 t34 t35 t36 t37 t38 : Value) :
    (Code.region 9 #[{ dst := some 25, op := Op.move (Operand.tmp 4), type := 23, pos := "ref.go:22", after := #[], guard := none }, { dst := some 26, op := Op.move (Operand.tmp 0), type := 22, pos := "ref.go:22", after := #[], guard := none }, { dst := some 27, op := Op.move (Operand.tmp 5), type := 3, pos := "ref.go:22", after := #[], guard := none }, { dst := some 28, op := Op.indexAddr 22 (Operand.tmp 26) (Operand.tmp 27), type := 0, pos := "ref.go:22", after := #[{ on := 1, ground := Ground.data }, { on := 2, ground := Ground.data }], guard := none }, { dst := some 29, op := Op.fieldAddr 50 (Operand.tmp 28) 0, type := 0, pos := "ref.go:22", after := #[{ on := 3, ground := Ground.data }], guard := none }, { dst := some 30, op := Op.load 3 (Operand.tmp 29), type := 3, pos := "ref.go:22", after := #[{ on := 4, ground := Ground.data }], guard := none }, { dst := some 31, op := Op.call { callee := Callee.value (Operand.func 27), args := #[Operand.tmp 25, Operand.const (Value.int IntKind.i64 1), Operand.tmp 30], argTypes := #[23, 3, 3] }, type := 23, pos := "ref.go:22", after := #[{ on := 0, ground := Ground.data }, { on := 5, ground := Ground.data }], guard := none }, { dst := some 32, op := Op.move (Operand.tmp 0), type := 22, pos := "ref.go:22", after := #[], guard := none }, { dst := some 33, op := Op.move (Operand.tmp 5), type := 3, pos := "ref.go:22", after := #[], guard := none }, { dst := some 34, op := Op.indexAddr 22 (Operand.tmp 32) (Operand.tmp 33), type := 0, pos := "ref.go:22", after := #[{ on := 7, ground := Ground.data }, { on := 8, ground := Ground.data }], guard := none }, { dst := some 35, op := Op.fieldAddr 50 (Operand.tmp 34) 1, type := 0, pos := "ref.go:22", after := #[{ on := 9, ground := Ground.data }], guard := none }, { dst := some 36, op := Op.load 3 (Operand.tmp 35), type := 3, pos := "ref.go:22", after := #[{ on := 10, ground := Ground.data }], guard := none }, { dst := some 37, op := Op.call { callee := Callee.value (Operand.func 27), args := #[Operand.tmp 31, Operand.const (Value.int IntKind.i64 8), Operand.tmp 36], argTypes := #[23, 3, 3] }, type := 23, pos := "ref.go:22", after := #[{ on := 6, ground := Ground.data }, { on := 11, ground := Ground.data }, { on := 6, ground := Ground.chain }], guard := none }, { dst := some 4, op := Op.assign (Operand.tmp 37), type := 23, pos := "ref.go:22", after := #[{ on := 12, ground := Ground.data }, { on := 12, ground := Ground.chain }, { on := 0, ground := Ground.phase }, { on := 1, ground := Ground.phase }, { on := 2, ground := Ground.phase }, { on := 3, ground := Ground.phase }, { on := 4, ground := Ground.phase }, { on := 5, ground := Ground.phase }, { on := 6, ground := Ground.phase }, { on := 7, ground := Ground.phase }, { on := 8, ground := Ground.phase }, { on := 9, ground := Ground.phase }, { on := 10, ground := Ground.phase }, { on := 11, ground := Ground.phase }, { on := 12, ground := Ground.phase }], guard := none }] true).wp Try.prog (fun e b v => e = Exit.normal ∧ ∃ u4 u25 u26 u27 u28 u29 u30 u31 u32 u33 u34 u35 u36 u37 : Value, b = ⟨#[.slice (some ⟨bk, off, none⟩) n ca, t1, t2, t3, u4, .int .i64 k, t6, t7, t8, t9, t10, t11, t12, t13, t14, t15, t16, t17, t18, t19, t20, t21, t22, t23, t24, u25, u26, u27, u28, u29, u30, u31, u32, u33, u34, u35, u36, u37, t38], []⟩ ∧ Below wr.heap.size wr v ∧ v.ownsRow wr.heap.size 5 1 u4 (l ++ cstL x).length (bytesV (l ++ cstL x))) ⟨#[.slice (some ⟨bk, off, none⟩) n ca, t1, t2, t3, r0, .int .i64 k, t6, t7, t8, t9, t10, t11, t12, t13, t14, t15, t16, t17, t18, t19, t20, t21, t22, t23, t24, t25, t26, t27, t28, t29, t30, t31, t32, t33, t34, t35, t36, t37, t38], []⟩ wr := by
  refine wp_region_facts (n := 14) (fun L b v => ∃ u4 u25 u26 u27 u28 u29 u30 u31 u32 u33 u34 u35 u36 u37 : Value, b = ⟨#[.slice (some ⟨bk, off, none⟩) n ca, t1, t2, t3, u4, .int .i64 k, t6, t7, t8, t9, t10, t11, t12, t13, t14, t15, t16, t17, t18, t19, t20, t21, t22, t23, t24, u25, u26, u27, u28, u29, u30, u31, u32, u33, u34, u35, u36, u37, t38], []⟩ ∧ Below wr.heap.size wr v ∧ (L.getD 0 false = true → u25 = r0) ∧ (L.getD 1 false = true → u26 = .slice (some ⟨bk, off, none⟩) n ca) ∧ (L.getD 2 false = true → u27 = .int .i64 k) ∧ (L.getD 3 false = true → u28 = .pointer (some ⟨bk, off + k * 2, none⟩)) ∧ (L.getD 4 false = true → u29 = .pointer (some ⟨bk, off + k * 2, none⟩)) ∧ (L.getD 5 false = true → u30 = .int .i64 x.1) ∧ (L.getD 6 false = true → v.ownsRow wr.heap.size 5 1 u31 (l ++ [byteO x.1]).length (bytesV (l ++ [byteO x.1]))) ∧ (L.getD 7 false = true → u32 = .slice (some ⟨bk, off, none⟩) n ca) ∧ (L.getD 8 false = true → u33 = .int .i64 k) ∧ (L.getD 9 false = true → u34 = .pointer (some ⟨bk, off + k * 2, none⟩)) ∧ (L.getD 10 false = true → u35 = .pointer (some ⟨bk, off + k * 2 + 1, none⟩)) ∧ (L.getD 11 false = true → u36 = .int .i64 x.2) ∧ (L.getD 12 false = true → v.ownsRow wr.heap.size 5 1 u37 (l ++ cstL x).length (bytesV (l ++ cstL x))) ∧ (L.getD 13 false = true → v.ownsRow wr.heap.size 5 1 u4 (l ++ cstL x).length (bytesV (l ++ cstL x))) ∧ (L.getD 13 false = false → u4 = r0)) (by kernel_rfl) (by kernel_rfl) (by kernel_rfl) ?_ ?_ ?_
  · refine ⟨_, _, _, _, _, _, _, _, _, _, _, _, _, _, rfl, (Below.refl _ _).drew, flag_new, flag_new, flag_new, flag_new, flag_new, flag_new, flag_new, flag_new, flag_new, flag_new, flag_new, flag_new, flag_new, flag_new, fun _ => (by first | rfl | assumption)⟩
  · refine AllSteps.succ (AllSteps.succ (AllSteps.succ (AllSteps.succ (AllSteps.succ (AllSteps.succ (AllSteps.succ (AllSteps.succ (AllSteps.succ (AllSteps.succ (AllSteps.succ (AllSteps.succ (AllSteps.succ (AllSteps.succ AllSteps.zero ?_) ?_) ?_) ?_) ?_) ?_) ?_) ?_) ?_) ?_) ?_) ?_) ?_) ?_
    · refine StepAt.mk (o := { dst := some 25, op := Op.move (Operand.tmp 4), type := 23, pos := _, after := #[], guard := none }) (ws := []) rfl (by kernel_rfl) ?_
      rintro L b v hC h0 hA ⟨u4, u25, u26, u27, u28, u29, u30, u31, u32, u33, u34, u35, u36, u37, rfl, hHeld, f0, f1, f2, f3, f4, f5, f6, f7, f8, f9, f10, f11, f12, f13, er⟩ K hK
      have dr := er (Bool.eq_false_iff.2 (fun h => getD_no h0 (hC.step (j := 13) (k := 0) h (by kernel_rfl))))
      obtain rfl := dr
      rw [if_pos (by kernel_rfl)]
      have q0 := cellB hHeld c0 hbw2
      have q1 := cellB hHeld c1 hbw2
      go_simp
      try simp only [Act.put, List.setIfInBounds_toArray, List.set_cons_zero, List.set_cons_succ]
      refine hK.out _ _ ⟨_, _, _, _, _, _, _, _, _, _, _, _, _, _, rfl, ?_, ?_, ?_, ?_, ?_, ?_, ?_, ?_, ?_, ?_, ?_, ?_, ?_, ?_, ?_, ?_⟩
      · first | exact hHeld | exact hHeld.trans (hb.mono hHeld.size) | (trace_state; fail)
      · intro _; first | rfl | (trace_state; fail)
      · first | exact flag_ne (by decide) f1 | exact fun _ => rfl
      · first | exact flag_ne (by decide) f2 | exact fun _ => rfl
      · first | exact flag_ne (by decide) f3 | exact fun _ => rfl
      · first | exact flag_ne (by decide) f4 | exact fun _ => rfl
      · first | exact flag_ne (by decide) f5 | exact fun _ => rfl
      · intro h; rw [getD_set_ne false (by decide)] at h; exact (getD_no h0 (hC.step (j := 6) (k := 0) h (by kernel_rfl))).elim
      · first | exact flag_ne (by decide) f7 | exact fun _ => rfl
      · first | exact flag_ne (by decide) f8 | exact fun _ => rfl
      · first | exact flag_ne (by decide) f9 | exact fun _ => rfl
      · first | exact flag_ne (by decide) f10 | exact fun _ => rfl
      · first | exact flag_ne (by decide) f11 | exact fun _ => rfl
      · intro h; rw [getD_set_ne false (by decide)] at h; exact (getD_no h0 (hC.step (j := 6) (k := 0) (hC.step (j := 12) (k := 6) h (by kernel_rfl)) (by kernel_rfl))).elim
      · intro h; rw [getD_set_ne false (by decide)] at h; exact (getD_no h0 (hC.step (j := 13) (k := 0) h (by kernel_rfl))).elim
      · intro h; first | rfl | (rw [getD_set_ne false (by decide)] at h; have := er h; first | exact this | exact owns_below this hb | (trace_state; fail))
    · refine StepAt.mk (o := { dst := some 26, op := Op.move (Operand.tmp 0), type := 22, pos := _, after := #[], guard := none }) (ws := []) rfl (by kernel_rfl) ?_
      rintro L b v hC h0 hA ⟨u4, u25, u26, u27, u28, u29, u30, u31, u32, u33, u34, u35, u36, u37, rfl, hHeld, f0, f1, f2, f3, f4, f5, f6, f7, f8, f9, f10, f11, f12, f13, er⟩ K hK
      rw [if_pos (by kernel_rfl)]
      have q0 := cellB hHeld c0 hbw2
      have q1 := cellB hHeld c1 hbw2
      go_simp
      try simp only [Act.put, List.setIfInBounds_toArray, List.set_cons_zero, List.set_cons_succ]
      refine hK.out _ _ ⟨_, _, _, _, _, _, _, _, _, _, _, _, _, _, rfl, ?_, ?_, ?_, ?_, ?_, ?_, ?_, ?_, ?_, ?_, ?_, ?_, ?_, ?_, ?_, ?_⟩
      · first | exact hHeld | exact hHeld.trans (hb.mono hHeld.size) | (trace_state; fail)
      · first | exact flag_ne (by decide) f0 | exact fun _ => rfl
      · intro _; first | rfl | (trace_state; fail)
      · first | exact flag_ne (by decide) f2 | exact fun _ => rfl
      · first | exact flag_ne (by decide) f3 | exact fun _ => rfl
      · first | exact flag_ne (by decide) f4 | exact fun _ => rfl
      · first | exact flag_ne (by decide) f5 | exact fun _ => rfl
      · intro h; rw [getD_set_ne false (by decide)] at h; exact (getD_no h0 (hC.step (j := 3) (k := 1) (hC.step (j := 4) (k := 3) (hC.step (j := 5) (k := 4) (hC.step (j := 6) (k := 5) h (by kernel_rfl)) (by kernel_rfl)) (by kernel_rfl)) (by kernel_rfl))).elim
      · first | exact flag_ne (by decide) f7 | exact fun _ => rfl
      · first | exact flag_ne (by decide) f8 | exact fun _ => rfl
      · first | exact flag_ne (by decide) f9 | exact fun _ => rfl
      · first | exact flag_ne (by decide) f10 | exact fun _ => rfl
      · first | exact flag_ne (by decide) f11 | exact fun _ => rfl
      · intro h; rw [getD_set_ne false (by decide)] at h; exact (getD_no h0 (hC.step (j := 3) (k := 1) (hC.step (j := 4) (k := 3) (hC.step (j := 5) (k := 4) (hC.step (j := 6) (k := 5) (hC.step (j := 12) (k := 6) h (by kernel_rfl)) (by kernel_rfl)) (by kernel_rfl)) (by kernel_rfl)) (by kernel_rfl))).elim
      · intro h; rw [getD_set_ne false (by decide)] at h; exact (getD_no h0 (hC.step (j := 13) (k := 1) h (by kernel_rfl))).elim
      · intro h; rw [getD_set_ne false (by decide)] at h; have := er h; first | exact this | exact owns_below this hb | (trace_state; fail)
    · refine StepAt.mk (o := { dst := some 27, op := Op.move (Operand.tmp 5), type := 3, pos := _, after := #[], guard := none }) (ws := []) rfl (by kernel_rfl) ?_
      rintro L b v hC h0 hA ⟨u4, u25, u26, u27, u28, u29, u30, u31, u32, u33, u34, u35, u36, u37, rfl, hHeld, f0, f1, f2, f3, f4, f5, f6, f7, f8, f9, f10, f11, f12, f13, er⟩ K hK
      rw [if_pos (by kernel_rfl)]
      have q0 := cellB hHeld c0 hbw2
      have q1 := cellB hHeld c1 hbw2
      go_simp
      try simp only [Act.put, List.setIfInBounds_toArray, List.set_cons_zero, List.set_cons_succ]
      refine hK.out _ _ ⟨_, _, _, _, _, _, _, _, _, _, _, _, _, _, rfl, ?_, ?_, ?_, ?_, ?_, ?_, ?_, ?_, ?_, ?_, ?_, ?_, ?_, ?_, ?_, ?_⟩
      · first | exact hHeld | exact hHeld.trans (hb.mono hHeld.size) | (trace_state; fail)
      · first | exact flag_ne (by decide) f0 | exact fun _ => rfl
      · first | exact flag_ne (by decide) f1 | exact fun _ => rfl
      · intro _; first | rfl | (trace_state; fail)
      · first | exact flag_ne (by decide) f3 | exact fun _ => rfl
      · first | exact flag_ne (by decide) f4 | exact fun _ => rfl
      · first | exact flag_ne (by decide) f5 | exact fun _ => rfl
      · intro h; rw [getD_set_ne false (by decide)] at h; exact (getD_no h0 (hC.step (j := 3) (k := 2) (hC.step (j := 4) (k := 3) (hC.step (j := 5) (k := 4) (hC.step (j := 6) (k := 5) h (by kernel_rfl)) (by kernel_rfl)) (by kernel_rfl)) (by kernel_rfl))).elim
      · first | exact flag_ne (by decide) f7 | exact fun _ => rfl
      · first | exact flag_ne (by decide) f8 | exact fun _ => rfl
      · first | exact flag_ne (by decide) f9 | exact fun _ => rfl
      · first | exact flag_ne (by decide) f10 | exact fun _ => rfl
      · first | exact flag_ne (by decide) f11 | exact fun _ => rfl
      · intro h; rw [getD_set_ne false (by decide)] at h; exact (getD_no h0 (hC.step (j := 3) (k := 2) (hC.step (j := 4) (k := 3) (hC.step (j := 5) (k := 4) (hC.step (j := 6) (k := 5) (hC.step (j := 12) (k := 6) h (by kernel_rfl)) (by kernel_rfl)) (by kernel_rfl)) (by kernel_rfl)) (by kernel_rfl))).elim
      · intro h; rw [getD_set_ne false (by decide)] at h; exact (getD_no h0 (hC.step (j := 13) (k := 2) h (by kernel_rfl))).elim
      · intro h; rw [getD_set_ne false (by decide)] at h; have := er h; first | exact this | exact owns_below this hb | (trace_state; fail)
    · refine StepAt.mk (o := { dst := some 28, op := Op.indexAddr 22 (Operand.tmp 26) (Operand.tmp 27), type := 0, pos := _, after := #[{ on := 1, ground := Ground.data }, { on := 2, ground := Ground.data }], guard := none }) (ws := [1, 2]) rfl (by kernel_rfl) ?_
      rintro L b v hC h0 hA ⟨u4, u25, u26, u27, u28, u29, u30, u31, u32, u33, u34, u35, u36, u37, rfl, hHeld, f0, f1, f2, f3, f4, f5, f6, f7, f8, f9, f10, f11, f12, f13, er⟩ K hK
      have g1 := f1 (hA 1 (by simp))
      obtain rfl := g1
      have g2 := f2 (hA 2 (by simp))
      obtain rfl := g2
      rw [if_pos (by kernel_rfl)]
      have q0 := cellB hHeld c0 hbw2
      have q1 := cellB hHeld c1 hbw2
      go_simp
      try simp only [Act.put, List.setIfInBounds_toArray, List.set_cons_zero, List.set_cons_succ]
      refine hK.out _ _ ⟨_, _, _, _, _, _, _, _, _, _, _, _, _, _, rfl, ?_, ?_, ?_, ?_, ?_, ?_, ?_, ?_, ?_, ?_, ?_, ?_, ?_, ?_, ?_, ?_⟩
      · first | exact hHeld | exact hHeld.trans (hb.mono hHeld.size) | (trace_state; fail)
      · first | exact flag_ne (by decide) f0 | exact fun _ => rfl
      · first | exact flag_ne (by decide) f1 | exact fun _ => rfl
      · first | exact flag_ne (by decide) f2 | exact fun _ => rfl
      · intro _; first | rfl | (trace_state; fail)
      · first | exact flag_ne (by decide) f4 | exact fun _ => rfl
      · first | exact flag_ne (by decide) f5 | exact fun _ => rfl
      · intro h; rw [getD_set_ne false (by decide)] at h; exact (getD_no h0 (hC.step (j := 4) (k := 3) (hC.step (j := 5) (k := 4) (hC.step (j := 6) (k := 5) h (by kernel_rfl)) (by kernel_rfl)) (by kernel_rfl))).elim
      · first | exact flag_ne (by decide) f7 | exact fun _ => rfl
      · first | exact flag_ne (by decide) f8 | exact fun _ => rfl
      · first | exact flag_ne (by decide) f9 | exact fun _ => rfl
      · first | exact flag_ne (by decide) f10 | exact fun _ => rfl
      · first | exact flag_ne (by decide) f11 | exact fun _ => rfl
      · intro h; rw [getD_set_ne false (by decide)] at h; exact (getD_no h0 (hC.step (j := 4) (k := 3) (hC.step (j := 5) (k := 4) (hC.step (j := 6) (k := 5) (hC.step (j := 12) (k := 6) h (by kernel_rfl)) (by kernel_rfl)) (by kernel_rfl)) (by kernel_rfl))).elim
      · intro h; rw [getD_set_ne false (by decide)] at h; exact (getD_no h0 (hC.step (j := 13) (k := 3) h (by kernel_rfl))).elim
      · intro h; rw [getD_set_ne false (by decide)] at h; have := er h; first | exact this | exact owns_below this hb | (trace_state; fail)
    · refine StepAt.mk (o := { dst := some 29, op := Op.fieldAddr 50 (Operand.tmp 28) 0, type := 0, pos := _, after := #[{ on := 3, ground := Ground.data }], guard := none }) (ws := [3]) rfl (by kernel_rfl) ?_
      rintro L b v hC h0 hA ⟨u4, u25, u26, u27, u28, u29, u30, u31, u32, u33, u34, u35, u36, u37, rfl, hHeld, f0, f1, f2, f3, f4, f5, f6, f7, f8, f9, f10, f11, f12, f13, er⟩ K hK
      have g3 := f3 (hA 3 (by simp))
      obtain rfl := g3
      rw [if_pos (by kernel_rfl)]
      have q0 := cellB hHeld c0 hbw2
      have q1 := cellB hHeld c1 hbw2
      go_simp
      try simp only [Act.put, List.setIfInBounds_toArray, List.set_cons_zero, List.set_cons_succ]
      refine hK.out _ _ ⟨_, _, _, _, _, _, _, _, _, _, _, _, _, _, rfl, ?_, ?_, ?_, ?_, ?_, ?_, ?_, ?_, ?_, ?_, ?_, ?_, ?_, ?_, ?_, ?_⟩
      · first | exact hHeld | exact hHeld.trans (hb.mono hHeld.size) | (trace_state; fail)
      · first | exact flag_ne (by decide) f0 | exact fun _ => rfl
      · first | exact flag_ne (by decide) f1 | exact fun _ => rfl
      · first | exact flag_ne (by decide) f2 | exact fun _ => rfl
      · first | exact flag_ne (by decide) f3 | exact fun _ => rfl
      · intro _; first | rfl | (trace_state; fail)
      · first | exact flag_ne (by decide) f5 | exact fun _ => rfl
      · intro h; rw [getD_set_ne false (by decide)] at h; exact (getD_no h0 (hC.step (j := 5) (k := 4) (hC.step (j := 6) (k := 5) h (by kernel_rfl)) (by kernel_rfl))).elim
      · first | exact flag_ne (by decide) f7 | exact fun _ => rfl
      · first | exact flag_ne (by decide) f8 | exact fun _ => rfl
      · first | exact flag_ne (by decide) f9 | exact fun _ => rfl
      · first | exact flag_ne (by decide) f10 | exact fun _ => rfl
      · first | exact flag_ne (by decide) f11 | exact fun _ => rfl
      · intro h; rw [getD_set_ne false (by decide)] at h; exact (getD_no h0 (hC.step (j := 5) (k := 4) (hC.step (j := 6) (k := 5) (hC.step (j := 12) (k := 6) h (by kernel_rfl)) (by kernel_rfl)) (by kernel_rfl))).elim
      · intro h; rw [getD_set_ne false (by decide)] at h; exact (getD_no h0 (hC.step (j := 13) (k := 4) h (by kernel_rfl))).elim
      · intro h; rw [getD_set_ne false (by decide)] at h; have := er h; first | exact this | exact owns_below this hb | (trace_state; fail)
    · refine StepAt.mk (o := { dst := some 30, op := Op.load 3 (Operand.tmp 29), type := 3, pos := _, after := #[{ on := 4, ground := Ground.data }], guard := none }) (ws := [4]) rfl (by kernel_rfl) ?_
      rintro L b v hC h0 hA ⟨u4, u25, u26, u27, u28, u29, u30, u31, u32, u33, u34, u35, u36, u37, rfl, hHeld, f0, f1, f2, f3, f4, f5, f6, f7, f8, f9, f10, f11, f12, f13, er⟩ K hK
      have g4 := f4 (hA 4 (by simp))
      obtain rfl := g4
      rw [if_pos (by kernel_rfl)]
      have q0 := cellB hHeld c0 hbw2
      have q1 := cellB hHeld c1 hbw2
      go_simp
      try simp only [Act.put, List.setIfInBounds_toArray, List.set_cons_zero, List.set_cons_succ]
      refine hK.out _ _ ⟨_, _, _, _, _, _, _, _, _, _, _, _, _, _, rfl, ?_, ?_, ?_, ?_, ?_, ?_, ?_, ?_, ?_, ?_, ?_, ?_, ?_, ?_, ?_, ?_⟩
      · first | exact hHeld | exact hHeld.trans (hb.mono hHeld.size) | (trace_state; fail)
      · first | exact flag_ne (by decide) f0 | exact fun _ => rfl
      · first | exact flag_ne (by decide) f1 | exact fun _ => rfl
      · first | exact flag_ne (by decide) f2 | exact fun _ => rfl
      · first | exact flag_ne (by decide) f3 | exact fun _ => rfl
      · first | exact flag_ne (by decide) f4 | exact fun _ => rfl
      · intro _; first | rfl | (trace_state; fail)
      · intro h; rw [getD_set_ne false (by decide)] at h; exact (getD_no h0 (hC.step (j := 6) (k := 5) h (by kernel_rfl))).elim
      · first | exact flag_ne (by decide) f7 | exact fun _ => rfl
      · first | exact flag_ne (by decide) f8 | exact fun _ => rfl
      · first | exact flag_ne (by decide) f9 | exact fun _ => rfl
      · first | exact flag_ne (by decide) f10 | exact fun _ => rfl
      · first | exact flag_ne (by decide) f11 | exact fun _ => rfl
      · intro h; rw [getD_set_ne false (by decide)] at h; exact (getD_no h0 (hC.step (j := 6) (k := 5) (hC.step (j := 12) (k := 6) h (by kernel_rfl)) (by kernel_rfl))).elim
      · intro h; rw [getD_set_ne false (by decide)] at h; exact (getD_no h0 (hC.step (j := 13) (k := 5) h (by kernel_rfl))).elim
      · intro h; rw [getD_set_ne false (by decide)] at h; have := er h; first | exact this | exact owns_below this hb | (trace_state; fail)
    · refine StepAt.mk (o := { dst := some 31, op := Op.call { callee := Callee.value (Operand.func 27), args := #[Operand.tmp 25, Operand.const (Value.int IntKind.i64 1), Operand.tmp 30], argTypes := #[23, 3, 3] }, type := 23, pos := _, after := #[{ on := 0, ground := Ground.data }, { on := 5, ground := Ground.data }], guard := none }) (ws := [0, 5]) rfl (by kernel_rfl) ?_
      rintro L b v hC h0 hA ⟨u4, u25, u26, u27, u28, u29, u30, u31, u32, u33, u34, u35, u36, u37, rfl, hHeld, f0, f1, f2, f3, f4, f5, f6, f7, f8, f9, f10, f11, f12, f13, er⟩ K hK
      have g0 := f0 (hA 0 (by simp))
      obtain rfl := g0
      have g5 := f5 (hA 5 (by simp))
      obtain rfl := g5
      rw [if_pos (by kernel_rfl)]
      have q0 := cellB hHeld c0 hbw2
      have q1 := cellB hHeld c1 hbw2
      go_simp
      refine (ref03_Put1 _ l x.1 v (HL.out v hHeld) (by omega)).mono ?_; rintro e v1 ⟨r, rfl, HO, hb⟩
      go_wp2_with fail
      try simp only [Act.put, List.setIfInBounds_toArray, List.set_cons_zero, List.set_cons_succ]
      refine hK.out _ _ ⟨_, _, _, _, _, _, _, _, _, _, _, _, _, _, rfl, ?_, ?_, ?_, ?_, ?_, ?_, ?_, ?_, ?_, ?_, ?_, ?_, ?_, ?_, ?_, ?_⟩
      · first | exact hHeld | exact hHeld.trans (hb.mono hHeld.size) | (trace_state; fail)
      · first | exact flag_ne (by decide) f0 | exact fun _ => rfl
      · first | exact flag_ne (by decide) f1 | exact fun _ => rfl
      · first | exact flag_ne (by decide) f2 | exact fun _ => rfl
      · first | exact flag_ne (by decide) f3 | exact fun _ => rfl
      · first | exact flag_ne (by decide) f4 | exact fun _ => rfl
      · first | exact flag_ne (by decide) f5 | exact fun _ => rfl
      · intro _; first | exact own_low HO hHeld.size | (trace_state; fail)
      · first | exact flag_ne (by decide) f7 | exact fun _ => rfl
      · first | exact flag_ne (by decide) f8 | exact fun _ => rfl
      · first | exact flag_ne (by decide) f9 | exact fun _ => rfl
      · first | exact flag_ne (by decide) f10 | exact fun _ => rfl
      · first | exact flag_ne (by decide) f11 | exact fun _ => rfl
      · intro h; rw [getD_set_ne false (by decide)] at h; exact (getD_no h0 (hC.step (j := 12) (k := 6) h (by kernel_rfl))).elim
      · intro h; rw [getD_set_ne false (by decide)] at h; exact (getD_no h0 (hC.step (j := 13) (k := 6) h (by kernel_rfl))).elim
      · intro h; rw [getD_set_ne false (by decide)] at h; have := er h; first | exact this | exact owns_below this hb | (trace_state; fail)
    · refine StepAt.mk (o := { dst := some 32, op := Op.move (Operand.tmp 0), type := 22, pos := _, after := #[], guard := none }) (ws := []) rfl (by kernel_rfl) ?_
      rintro L b v hC h0 hA ⟨u4, u25, u26, u27, u28, u29, u30, u31, u32, u33, u34, u35, u36, u37, rfl, hHeld, f0, f1, f2, f3, f4, f5, f6, f7, f8, f9, f10, f11, f12, f13, er⟩ K hK
      rw [if_pos (by kernel_rfl)]
      have q0 := cellB hHeld c0 hbw2
      have q1 := cellB hHeld c1 hbw2
      go_simp
      try simp only [Act.put, List.setIfInBounds_toArray, List.set_cons_zero, List.set_cons_succ]
      refine hK.out _ _ ⟨_, _, _, _, _, _, _, _, _, _, _, _, _, _, rfl, ?_, ?_, ?_, ?_, ?_, ?_, ?_, ?_, ?_, ?_, ?_, ?_, ?_, ?_, ?_, ?_⟩
      · first | exact hHeld | exact hHeld.trans (hb.mono hHeld.size) | (trace_state; fail)
      · first | exact flag_ne (by decide) f0 | exact fun _ => rfl
      · first | exact flag_ne (by decide) f1 | exact fun _ => rfl
      · first | exact flag_ne (by decide) f2 | exact fun _ => rfl
      · first | exact flag_ne (by decide) f3 | exact fun _ => rfl
      · first | exact flag_ne (by decide) f4 | exact fun _ => rfl
      · first | exact flag_ne (by decide) f5 | exact fun _ => rfl
      · intro h; rw [getD_set_ne false (by decide)] at h; have := f6 h; first | exact this | exact owns_below this hb | (trace_state; fail)
      · intro _; first | rfl | (trace_state; fail)
      · first | exact flag_ne (by decide) f8 | exact fun _ => rfl
      · first | exact flag_ne (by decide) f9 | exact fun _ => rfl
      · first | exact flag_ne (by decide) f10 | exact fun _ => rfl
      · first | exact flag_ne (by decide) f11 | exact fun _ => rfl
      · intro h; rw [getD_set_ne false (by decide)] at h; exact (getD_no h0 (hC.step (j := 9) (k := 7) (hC.step (j := 10) (k := 9) (hC.step (j := 11) (k := 10) (hC.step (j := 12) (k := 11) h (by kernel_rfl)) (by kernel_rfl)) (by kernel_rfl)) (by kernel_rfl))).elim
      · intro h; rw [getD_set_ne false (by decide)] at h; exact (getD_no h0 (hC.step (j := 13) (k := 7) h (by kernel_rfl))).elim
      · intro h; rw [getD_set_ne false (by decide)] at h; have := er h; first | exact this | exact owns_below this hb | (trace_state; fail)
    · refine StepAt.mk (o := { dst := some 33, op := Op.move (Operand.tmp 5), type := 3, pos := _, after := #[], guard := none }) (ws := []) rfl (by kernel_rfl) ?_
      rintro L b v hC h0 hA ⟨u4, u25, u26, u27, u28, u29, u30, u31, u32, u33, u34, u35, u36, u37, rfl, hHeld, f0, f1, f2, f3, f4, f5, f6, f7, f8, f9, f10, f11, f12, f13, er⟩ K hK
      rw [if_pos (by kernel_rfl)]
      have q0 := cellB hHeld c0 hbw2
      have q1 := cellB hHeld c1 hbw2
      go_simp
      try simp only [Act.put, List.setIfInBounds_toArray, List.set_cons_zero, List.set_cons_succ]
      refine hK.out _ _ ⟨_, _, _, _, _, _, _, _, _, _, _, _, _, _, rfl, ?_, ?_, ?_, ?_, ?_, ?_, ?_, ?_, ?_, ?_, ?_, ?_, ?_, ?_, ?_, ?_⟩
      · first | exact hHeld | exact hHeld.trans (hb.mono hHeld.size) | (trace_state; fail)
      · first | exact flag_ne (by decide) f0 | exact fun _ => rfl
      · first | exact flag_ne (by decide) f1 | exact fun _ => rfl
      · first | exact flag_ne (by decide) f2 | exact fun _ => rfl
      · first | exact flag_ne (by decide) f3 | exact fun _ => rfl
      · first | exact flag_ne (by decide) f4 | exact fun _ => rfl
      · first | exact flag_ne (by decide) f5 | exact fun _ => rfl
      · intro h; rw [getD_set_ne false (by decide)] at h; have := f6 h; first | exact this | exact owns_below this hb | (trace_state; fail)
      · first | exact flag_ne (by decide) f7 | exact fun _ => rfl
      · intro _; first | rfl | (trace_state; fail)
      · first | exact flag_ne (by decide) f9 | exact fun _ => rfl
      · first | exact flag_ne (by decide) f10 | exact fun _ => rfl
      · first | exact flag_ne (by decide) f11 | exact fun _ => rfl
      · intro h; rw [getD_set_ne false (by decide)] at h; exact (getD_no h0 (hC.step (j := 9) (k := 8) (hC.step (j := 10) (k := 9) (hC.step (j := 11) (k := 10) (hC.step (j := 12) (k := 11) h (by kernel_rfl)) (by kernel_rfl)) (by kernel_rfl)) (by kernel_rfl))).elim
      · intro h; rw [getD_set_ne false (by decide)] at h; exact (getD_no h0 (hC.step (j := 13) (k := 8) h (by kernel_rfl))).elim
      · intro h; rw [getD_set_ne false (by decide)] at h; have := er h; first | exact this | exact owns_below this hb | (trace_state; fail)
    · refine StepAt.mk (o := { dst := some 34, op := Op.indexAddr 22 (Operand.tmp 32) (Operand.tmp 33), type := 0, pos := _, after := #[{ on := 7, ground := Ground.data }, { on := 8, ground := Ground.data }], guard := none }) (ws := [7, 8]) rfl (by kernel_rfl) ?_
      rintro L b v hC h0 hA ⟨u4, u25, u26, u27, u28, u29, u30, u31, u32, u33, u34, u35, u36, u37, rfl, hHeld, f0, f1, f2, f3, f4, f5, f6, f7, f8, f9, f10, f11, f12, f13, er⟩ K hK
      have g7 := f7 (hA 7 (by simp))
      obtain rfl := g7
      have g8 := f8 (hA 8 (by simp))
      obtain rfl := g8
      rw [if_pos (by kernel_rfl)]
      have q0 := cellB hHeld c0 hbw2
      have q1 := cellB hHeld c1 hbw2
      go_simp
      try simp only [Act.put, List.setIfInBounds_toArray, List.set_cons_zero, List.set_cons_succ]
      refine hK.out _ _ ⟨_, _, _, _, _, _, _, _, _, _, _, _, _, _, rfl, ?_, ?_, ?_, ?_, ?_, ?_, ?_, ?_, ?_, ?_, ?_, ?_, ?_, ?_, ?_, ?_⟩
      · first | exact hHeld | exact hHeld.trans (hb.mono hHeld.size) | (trace_state; fail)
      · first | exact flag_ne (by decide) f0 | exact fun _ => rfl
      · first | exact flag_ne (by decide) f1 | exact fun _ => rfl
      · first | exact flag_ne (by decide) f2 | exact fun _ => rfl
      · first | exact flag_ne (by decide) f3 | exact fun _ => rfl
      · first | exact flag_ne (by decide) f4 | exact fun _ => rfl
      · first | exact flag_ne (by decide) f5 | exact fun _ => rfl
      · intro h; rw [getD_set_ne false (by decide)] at h; have := f6 h; first | exact this | exact owns_below this hb | (trace_state; fail)
      · first | exact flag_ne (by decide) f7 | exact fun _ => rfl
      · first | exact flag_ne (by decide) f8 | exact fun _ => rfl
      · intro _; first | rfl | (trace_state; fail)
      · first | exact flag_ne (by decide) f10 | exact fun _ => rfl
      · first | exact flag_ne (by decide) f11 | exact fun _ => rfl
      · intro h; rw [getD_set_ne false (by decide)] at h; exact (getD_no h0 (hC.step (j := 10) (k := 9) (hC.step (j := 11) (k := 10) (hC.step (j := 12) (k := 11) h (by kernel_rfl)) (by kernel_rfl)) (by kernel_rfl))).elim
      · intro h; rw [getD_set_ne false (by decide)] at h; exact (getD_no h0 (hC.step (j := 13) (k := 9) h (by kernel_rfl))).elim
      · intro h; rw [getD_set_ne false (by decide)] at h; have := er h; first | exact this | exact owns_below this hb | (trace_state; fail)
    · refine StepAt.mk (o := { dst := some 35, op := Op.fieldAddr 50 (Operand.tmp 34) 1, type := 0, pos := _, after := #[{ on := 9, ground := Ground.data }], guard := none }) (ws := [9]) rfl (by kernel_rfl) ?_
      rintro L b v hC h0 hA ⟨u4, u25, u26, u27, u28, u29, u30, u31, u32, u33, u34, u35, u36, u37, rfl, hHeld, f0, f1, f2, f3, f4, f5, f6, f7, f8, f9, f10, f11, f12, f13, er⟩ K hK
      have g9 := f9 (hA 9 (by simp))
      obtain rfl := g9
      rw [if_pos (by kernel_rfl)]
      have q0 := cellB hHeld c0 hbw2
      have q1 := cellB hHeld c1 hbw2
      go_simp
      try simp only [Act.put, List.setIfInBounds_toArray, List.set_cons_zero, List.set_cons_succ]
      refine hK.out _ _ ⟨_, _, _, _, _, _, _, _, _, _, _, _, _, _, rfl, ?_, ?_, ?_, ?_, ?_, ?_, ?_, ?_, ?_, ?_, ?_, ?_, ?_, ?_, ?_, ?_⟩
      · first | exact hHeld | exact hHeld.trans (hb.mono hHeld.size) | (trace_state; fail)
      · first | exact flag_ne (by decide) f0 | exact fun _ => rfl
      · first | exact flag_ne (by decide) f1 | exact fun _ => rfl
      · first | exact flag_ne (by decide) f2 | exact fun _ => rfl
      · first | exact flag_ne (by decide) f3 | exact fun _ => rfl
      · first | exact flag_ne (by decide) f4 | exact fun _ => rfl
      · first | exact flag_ne (by decide) f5 | exact fun _ => rfl
      · intro h; rw [getD_set_ne false (by decide)] at h; have := f6 h; first | exact this | exact owns_below this hb | (trace_state; fail)
      · first | exact flag_ne (by decide) f7 | exact fun _ => rfl
      · first | exact flag_ne (by decide) f8 | exact fun _ => rfl
      · first | exact flag_ne (by decide) f9 | exact fun _ => rfl
      · intro _; first | rfl | (trace_state; fail)
      · first | exact flag_ne (by decide) f11 | exact fun _ => rfl
      · intro h; rw [getD_set_ne false (by decide)] at h; exact (getD_no h0 (hC.step (j := 11) (k := 10) (hC.step (j := 12) (k := 11) h (by kernel_rfl)) (by kernel_rfl))).elim
      · intro h; rw [getD_set_ne false (by decide)] at h; exact (getD_no h0 (hC.step (j := 13) (k := 10) h (by kernel_rfl))).elim
      · intro h; rw [getD_set_ne false (by decide)] at h; have := er h; first | exact this | exact owns_below this hb | (trace_state; fail)
    · refine StepAt.mk (o := { dst := some 36, op := Op.load 3 (Operand.tmp 35), type := 3, pos := _, after := #[{ on := 10, ground := Ground.data }], guard := none }) (ws := [10]) rfl (by kernel_rfl) ?_
      rintro L b v hC h0 hA ⟨u4, u25, u26, u27, u28, u29, u30, u31, u32, u33, u34, u35, u36, u37, rfl, hHeld, f0, f1, f2, f3, f4, f5, f6, f7, f8, f9, f10, f11, f12, f13, er⟩ K hK
      have g10 := f10 (hA 10 (by simp))
      obtain rfl := g10
      rw [if_pos (by kernel_rfl)]
      have q0 := cellB hHeld c0 hbw2
      have q1 := cellB hHeld c1 hbw2
      go_simp
      try simp only [Act.put, List.setIfInBounds_toArray, List.set_cons_zero, List.set_cons_succ]
      refine hK.out _ _ ⟨_, _, _, _, _, _, _, _, _, _, _, _, _, _, rfl, ?_, ?_, ?_, ?_, ?_, ?_, ?_, ?_, ?_, ?_, ?_, ?_, ?_, ?_, ?_, ?_⟩
      · first | exact hHeld | exact hHeld.trans (hb.mono hHeld.size) | (trace_state; fail)
      · first | exact flag_ne (by decide) f0 | exact fun _ => rfl
      · first | exact flag_ne (by decide) f1 | exact fun _ => rfl
      · first | exact flag_ne (by decide) f2 | exact fun _ => rfl
      · first | exact flag_ne (by decide) f3 | exact fun _ => rfl
      · first | exact flag_ne (by decide) f4 | exact fun _ => rfl
      · first | exact flag_ne (by decide) f5 | exact fun _ => rfl
      · intro h; rw [getD_set_ne false (by decide)] at h; have := f6 h; first | exact this | exact owns_below this hb | (trace_state; fail)
      · first | exact flag_ne (by decide) f7 | exact fun _ => rfl
      · first | exact flag_ne (by decide) f8 | exact fun _ => rfl
      · first | exact flag_ne (by decide) f9 | exact fun _ => rfl
      · first | exact flag_ne (by decide) f10 | exact fun _ => rfl
      · intro _; first | rfl | (trace_state; fail)
      · intro h; rw [getD_set_ne false (by decide)] at h; exact (getD_no h0 (hC.step (j := 12) (k := 11) h (by kernel_rfl))).elim
      · intro h; rw [getD_set_ne false (by decide)] at h; exact (getD_no h0 (hC.step (j := 13) (k := 11) h (by kernel_rfl))).elim
      · intro h; rw [getD_set_ne false (by decide)] at h; have := er h; first | exact this | exact owns_below this hb | (trace_state; fail)
    · refine StepAt.mk (o := { dst := some 37, op := Op.call { callee := Callee.value (Operand.func 27), args := #[Operand.tmp 31, Operand.const (Value.int IntKind.i64 8), Operand.tmp 36], argTypes := #[23, 3, 3] }, type := 23, pos := _, after := #[{ on := 6, ground := Ground.data }, { on := 11, ground := Ground.data }, { on := 6, ground := Ground.chain }], guard := none }) (ws := [6, 11, 6]) rfl (by kernel_rfl) ?_
      rintro L b v hC h0 hA ⟨u4, u25, u26, u27, u28, u29, u30, u31, u32, u33, u34, u35, u36, u37, rfl, hHeld, f0, f1, f2, f3, f4, f5, f6, f7, f8, f9, f10, f11, f12, f13, er⟩ K hK
      have g6 := f6 (hA 6 (by simp))
      have g11 := f11 (hA 11 (by simp))
      obtain rfl := g11
      rw [if_pos (by kernel_rfl)]
      have q0 := cellB hHeld c0 hbw2
      have q1 := cellB hHeld c1 hbw2
      go_simp
      refine (ref03_Put8 u31 (l ++ [byteO x.1]) x.2 v (RowAt.owns g6 (fun i hi => byteV_at hi)) (by rw [List.length_append, List.length_singleton]; omega)).mono ?_; rintro e v1 ⟨r, rfl, HO, hb⟩; rw [List.append_assoc, show [byteO x.1] ++ putL 8 x.2 = cstL x from rfl] at HO
      go_wp2_with fail
      try simp only [Act.put, List.setIfInBounds_toArray, List.set_cons_zero, List.set_cons_succ]
      refine hK.out _ _ ⟨_, _, _, _, _, _, _, _, _, _, _, _, _, _, rfl, ?_, ?_, ?_, ?_, ?_, ?_, ?_, ?_, ?_, ?_, ?_, ?_, ?_, ?_, ?_, ?_⟩
      · first | exact hHeld | exact hHeld.trans (hb.mono hHeld.size) | (trace_state; fail)
      · first | exact flag_ne (by decide) f0 | exact fun _ => rfl
      · first | exact flag_ne (by decide) f1 | exact fun _ => rfl
      · first | exact flag_ne (by decide) f2 | exact fun _ => rfl
      · first | exact flag_ne (by decide) f3 | exact fun _ => rfl
      · first | exact flag_ne (by decide) f4 | exact fun _ => rfl
      · first | exact flag_ne (by decide) f5 | exact fun _ => rfl
      · intro h; rw [getD_set_ne false (by decide)] at h; have := f6 h; first | exact this | exact owns_below this hb | (trace_state; fail)
      · first | exact flag_ne (by decide) f7 | exact fun _ => rfl
      · first | exact flag_ne (by decide) f8 | exact fun _ => rfl
      · first | exact flag_ne (by decide) f9 | exact fun _ => rfl
      · first | exact flag_ne (by decide) f10 | exact fun _ => rfl
      · first | exact flag_ne (by decide) f11 | exact fun _ => rfl
      · intro _; first | exact own_low HO hHeld.size | (trace_state; fail)
      · intro h; rw [getD_set_ne false (by decide)] at h; exact (getD_no h0 (hC.step (j := 13) (k := 12) h (by kernel_rfl))).elim
      · intro h; rw [getD_set_ne false (by decide)] at h; have := er h; first | exact this | exact owns_below this hb | (trace_state; fail)
    · refine StepAt.mk (o := { dst := some 4, op := Op.assign (Operand.tmp 37), type := 23, pos := _, after := #[{ on := 12, ground := Ground.data }, { on := 12, ground := Ground.chain }, { on := 0, ground := Ground.phase }, { on := 1, ground := Ground.phase }, { on := 2, ground := Ground.phase }, { on := 3, ground := Ground.phase }, { on := 4, ground := Ground.phase }, { on := 5, ground := Ground.phase }, { on := 6, ground := Ground.phase }, { on := 7, ground := Ground.phase }, { on := 8, ground := Ground.phase }, { on := 9, ground := Ground.phase }, { on := 10, ground := Ground.phase }, { on := 11, ground := Ground.phase }, { on := 12, ground := Ground.phase }], guard := none }) (ws := [12, 12, 0, 1, 2, 3, 4, 5, 6, 7, 8, 9, 10, 11, 12]) rfl (by kernel_rfl) ?_
      rintro L b v hC h0 hA ⟨u4, u25, u26, u27, u28, u29, u30, u31, u32, u33, u34, u35, u36, u37, rfl, hHeld, f0, f1, f2, f3, f4, f5, f6, f7, f8, f9, f10, f11, f12, f13, er⟩ K hK
      have g12 := f12 (hA 12 (by simp))
      have g0 := f0 (hA 0 (by simp))
      obtain rfl := g0
      have g1 := f1 (hA 1 (by simp))
      obtain rfl := g1
      have g2 := f2 (hA 2 (by simp))
      obtain rfl := g2
      have g3 := f3 (hA 3 (by simp))
      obtain rfl := g3
      have g4 := f4 (hA 4 (by simp))
      obtain rfl := g4
      have g5 := f5 (hA 5 (by simp))
      obtain rfl := g5
      have g6 := f6 (hA 6 (by simp))
      have g7 := f7 (hA 7 (by simp))
      obtain rfl := g7
      have g8 := f8 (hA 8 (by simp))
      obtain rfl := g8
      have g9 := f9 (hA 9 (by simp))
      obtain rfl := g9
      have g10 := f10 (hA 10 (by simp))
      obtain rfl := g10
      have g11 := f11 (hA 11 (by simp))
      obtain rfl := g11
      rw [if_pos (by kernel_rfl)]
      have q0 := cellB hHeld c0 hbw2
      have q1 := cellB hHeld c1 hbw2
      go_simp
      try simp only [Act.put, List.setIfInBounds_toArray, List.set_cons_zero, List.set_cons_succ]
      refine hK.out _ _ ⟨_, _, _, _, _, _, _, _, _, _, _, _, _, _, rfl, ?_, ?_, ?_, ?_, ?_, ?_, ?_, ?_, ?_, ?_, ?_, ?_, ?_, ?_, ?_, ?_⟩
      · first | exact hHeld | exact hHeld.trans (hb.mono hHeld.size) | (trace_state; fail)
      · first | exact flag_ne (by decide) f0 | exact fun _ => rfl
      · first | exact flag_ne (by decide) f1 | exact fun _ => rfl
      · first | exact flag_ne (by decide) f2 | exact fun _ => rfl
      · first | exact flag_ne (by decide) f3 | exact fun _ => rfl
      · first | exact flag_ne (by decide) f4 | exact fun _ => rfl
      · first | exact flag_ne (by decide) f5 | exact fun _ => rfl
      · intro h; rw [getD_set_ne false (by decide)] at h; have := f6 h; first | exact this | exact owns_below this hb | (trace_state; fail)
      · first | exact flag_ne (by decide) f7 | exact fun _ => rfl
      · first | exact flag_ne (by decide) f8 | exact fun _ => rfl
      · first | exact flag_ne (by decide) f9 | exact fun _ => rfl
      · first | exact flag_ne (by decide) f10 | exact fun _ => rfl
      · first | exact flag_ne (by decide) f11 | exact fun _ => rfl
      · intro h; rw [getD_set_ne false (by decide)] at h; have := f12 h; first | exact this | exact owns_below this hb | (trace_state; fail)
      · intro _; first | exact g12 | (trace_state; fail)
      · intro h; rw [getD_set_done h0] at h; cases h
  rintro L b v hA ⟨u4, u25, u26, u27, u28, u29, u30, u31, u32, u33, u34, u35, u36, u37, rfl, hHeld, f0, f1, f2, f3, f4, f5, f6, f7, f8, f9, f10, f11, f12, f13, er⟩
  clear er
  have g0 := f0 (hA 0 (by omega))
  clear f0
  obtain rfl := g0
  have g1 := f1 (hA 1 (by omega))
  clear f1
  obtain rfl := g1
  have g2 := f2 (hA 2 (by omega))
  clear f2
  obtain rfl := g2
  have g3 := f3 (hA 3 (by omega))
  clear f3
  obtain rfl := g3
  have g4 := f4 (hA 4 (by omega))
  clear f4
  obtain rfl := g4
  have g5 := f5 (hA 5 (by omega))
  clear f5
  obtain rfl := g5
  have g6 := f6 (hA 6 (by omega))
  clear f6
  have g7 := f7 (hA 7 (by omega))
  clear f7
  obtain rfl := g7
  have g8 := f8 (hA 8 (by omega))
  clear f8
  obtain rfl := g8
  have g9 := f9 (hA 9 (by omega))
  clear f9
  obtain rfl := g9
  have g10 := f10 (hA 10 (by omega))
  clear f10
  obtain rfl := g10
  have g11 := f11 (hA 11 (by omega))
  clear f11
  obtain rfl := g11
  have g12 := f12 (hA 12 (by omega))
  clear f12
  have g13 := f13 (hA 13 (by omega))
  clear f13
  clear hA
  exact ⟨rfl, _, _, _, _, _, _, _, _, _, _, _, _, _, _, rfl, hHeld, g13⟩
set_option maxHeartbeats 4000000 in
theorem ref14_Consts_in (v : Value) (L : List (Int × Int)) (w : World) (hv : RowR 2 constR w v L) (hlen : L.length ≤ 1024) :
    Calls Try.prog 8 #[v] w (PutsC w L) := by
  obtain ⟨i, hi, hz, hsize, hby⟩ : ∃ i, Try.prog.info? 5 = some i ∧ i.zero = some (.int .u8 0) ∧ i.size = 1 ∧ i.bytes = 1 := ⟨(Try.prog.info? 5).get!, by kernel_rfl, by kernel_rfl, by kernel_rfl, by kernel_rfl⟩
  have ho : okCs L = L.all cstOk := by unfold okCs; rw [decide_eq_true hlen]; rfl
  unfold PutsC
  rw [ho]
  obtain ⟨sa, ca, rfl⟩ := row_get hv
  have HY := Lib.hid (show L.take L.length = L from List.take_length)
  obtain ⟨n, hN⟩ : ∃ n, L.length = n := ⟨_, rfl⟩
  rw [hN] at hv hlen HY ⊢
  have q0 : (1024 < (n : Int)) = False := eq_false (by omega)
  go_enter Try.func8, Try.ntmps8
  go_wp2_with fail
  refine (ref03_Put (.slice none 0 0) [] 2 (n : Int) _ (Or.inl ⟨none, 0, rfl, rfl, fun _ => rfl⟩) (by simp)).mono ?_; rintro e w1 ⟨r1, rfl, hO1, hb1⟩
  have hO1 : w1.ownsRow w.heap.size 5 1 r1 2 (bytesV (putL 2 n)) := hO1
  go_wp2_with fail
  go_loopw [4, 5] (fun o j wr => ∃ k : Nat, k ≤ n ∧ j = .int .i64 k ∧ Hid ((L.take k).all cstOk = true) ∧ Hid (wr.ownsRow w.heap.size 5 1 o (2 + (cstsL (L.take k)).length) (bytesV (putL 2 n ++ cstsL (L.take k)))) ∧ Below w.heap.size w wr) (fun _ j _ => n - (intOf j).toNat)
  case atStart => exact ⟨0, by omega, rfl, Lib.hid (by simp), Lib.hid (by simpa [cstsL] using hO1), hb1⟩
  case round =>
    obtain ⟨k, hk, rfl, hall, hO, hB⟩ := hrel
    have hz' := hB.size
    by_cases hlt : k < n
    · obtain ⟨x, hx⟩ : ∃ x, L[k]? = some x := get_some (by omega)
      obtain ⟨bk, off, rfl, hbw, hc⟩ := const_at hv (k := k) (by omega)
      obtain ⟨c0, c1, c2, c3⟩ := hc k x hx
      have c0 := (hB.cell (p := ⟨bk, off + k * 2, none⟩) hbw).trans c0
      have c1 := (hB.cell (p := ⟨bk, off + k * 2 + 1, none⟩) hbw).trans c1
      clear hc
      have hts := Lib.hid (take_snoc hx)
      have hmem := Lib.hid (List.mem_of_getElem? hx)
      have hno := Lib.hid (fun h : cstOk x = false => (show L.all cstOk = false from List.all_eq_false.2 ⟨x, hmem.out, by simp [h]⟩))
      have hbl : (cstsL (L.take k)).length ≤ 900000 := by have := cstsL_len (L.take k); rw [List.length_take] at this; omega
      have hbw2 : bk < wr.heap.size := by omega
      clear hx hmem
      cases hf : fitB x.1
      · have hA := Lib.hid (hno.out (show cstOk x = false from hf))
        have HS := Lib.hid (fun W => ref14_small x.1 W)
        rw [hf] at HS
        go_wp2_with fail
        refine (HS.out _).mono ?_; rintro e w' ⟨rfl, rfl⟩
        go_wp2_with fail
        go_returns
        exact ⟨_, by rw [hA.out]; rfl, fun h => (by rw [hA.out] at h; cases h), fun _ => rfl, hB⟩
      · have HS := Lib.hid (fun W => ref14_small x.1 W)
        rw [hf] at HS
        have hok := Lib.hid (show cstOk x = true from hf)
        go_wp2_with fail
        refine (HS.out _).mono ?_; rintro e w' ⟨rfl, rfl⟩
        go_wp2
        obtain ⟨r0, hr0⟩ : ∃ r0 : Value, r0 = u4 := ⟨_, rfl⟩
        subst hr0
        obtain ⟨l, hl⟩ : ∃ l, putL 2 (n : Int) ++ cstsL (L.take k) = l := ⟨_, rfl⟩
        have hll : l.length = 2 + (cstsL (L.take k)).length := by rw [← hl, List.length_append, putL_len]
        rw [hl, ← hll] at hO
        have HLl := Lib.hid (fun W (hW : Below wr.heap.size wr W) => RowAt.owns (f := byteV l) (owns_below hO.out hW) (fun i hi => byteV_at hi))
        have HL2 := Lib.hid (And.intro hl hll)
        have hl6 : l.length ≤ 1000000 := by omega
        clear hl hll HS
        refine Code.wp_mono ?_ (refCsts_r9 wr n ca bk off k x r0 l c0 c1 hbw2 HLl hl6 hlt hlen _ _ _ _ _ _ _ _ _ _ _ _ _ _ _ _ _ _ _ _ _ _ _ _ _ _ _ _ _ _ _ _ _ _ _ _)
        rintro e b v ⟨rfl, u4, u25, u26, u27, u28, u29, u30, u31, u32, u33, u34, u35, u36, u37, rfl, hHeld, g13⟩
        go_wp2_with fail
        go_roundw
        case rel => exact ⟨k + 1, by omega, by simp, Lib.hid (by rw [hts.out, List.all_append, hall.out]; simp [hok.out]), Lib.hid (own_eq2 (own_low g13 hz') (by rw [hts.out, cstsL_snoc, List.length_append, List.length_append, HL2.out.2]; omega) (by rw [hts.out, cstsL_snoc, ← List.append_assoc, HL2.out.1])), hB.trans (hHeld.mono hz')⟩
        case measure => first | (simp [intOf]; done) | (simp [intOf]; omega)
    · obtain rfl : k = n := by omega
      have hA := Lib.hid (show L.all cstOk = true by have := hall.out; rwa [HY.out] at this)
      go_wp2_with fail
      go_returns
      exact ⟨_, by rw [hA.out]; rfl, fun _ => (by have := hO.out; rwa [HY.out] at this), fun h => (by rw [hA.out] at h; cases h), hB⟩
theorem ref14_Consts_long (v : Value) (L : List (Int × Int)) (w : World) (hv : RowR 2 constR w v L) (hlen : 1024 < L.length) :
    Calls Try.prog 8 #[v] w fun e w' => e = .returned (.tuple #[.slice none 0 0, .bool false]) ∧ Below w.heap.size w w' := by
  have hl := hv.len
  obtain ⟨sa, ca, rfl⟩ := row_get hv
  obtain ⟨n, hN⟩ : ∃ n, L.length = n := ⟨_, rfl⟩
  rw [hN] at hv hlen hl ⊢
  have q0 : (1024 < (n : Int)) = True := eq_true (by omega)
  go_enter Try.func8, Try.ntmps8
  go_wp2_with fail
  go_returns
  exact ⟨rfl, by (repeat' (first | (with_reducible exact Below.refl _ _) | (with_reducible assumption) | (with_reducible refine below_drewN ?_ _) | (with_reducible refine Below.alloc ?_ ?_ _) | (with_reducible refine Below.drew ?_) | (with_reducible refine Below.setCell ?_ ?_ _) | go_size))⟩
theorem ref14_Consts (v : Value) (L : List (Int × Int)) (w : World) (hv : RowR 2 constR w v L) :
    Calls Try.prog 8 #[v] w (PutsC w L) := by
  by_cases h : L.length ≤ 1024
  · exact ref14_Consts_in v L w hv h
  · have ho : okCs L = false := by unfold okCs; rw [decide_eq_false h]; rfl
    refine (ref14_Consts_long v L w hv (by omega)).mono ?_
    rintro e w' ⟨rfl, h3⟩
    exact ⟨_, by rw [ho], fun h => (by rw [ho] at h; cases h), fun _ => rfl, h3⟩
end Go.Proofs.Ytdpcfcflcfjmjaa
