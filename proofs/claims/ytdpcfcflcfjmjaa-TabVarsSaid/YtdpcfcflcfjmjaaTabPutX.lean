/- Layer 14: a variable's row as bytes: the second region, a name that is too long. -/
import Derived.Test.YtdpcfcflcfjmjaaTabPutV
namespace Go.Proofs.Ytdpcfcflcfjmjaa
open Go.RowKit
set_option linter.unusedSimpArgs false
set_option linter.unusedVariables false
set_option maxHeartbeats 4000000 in
theorem putVar_r2n (W0 : World) (g : Nat) (x : Vr) (i : TypeInfo) (hi : Try.prog.info? 5 = some i) (hz : i.zero = some (.int .u8 0)) (hsize : i.size = 1) (hby : i.bytes = 1) (w1 : I64 x.t) (w2 : I64 x.n) (w3 : I64 x.area) (C0 : W0.cell? ⟨g, 0, none⟩ = some (.string ⟨x.name.toArray⟩)) (C1 : W0.cell? ⟨g, 1, none⟩ = some (.int .i64 x.t)) (C2 : W0.cell? ⟨g, 2, none⟩ = some (.int .i64 x.n)) (C3 : W0.cell? ⟨g, 3, none⟩ = some (.int .i64 x.area)) (C4 : W0.cell? ⟨g, 4, none⟩ = some (.int .i64 x.init)) (hg : g < W0.heap.size) (r4 : Value) (l : List UInt8) (hl : l.length ≤ 2000) (B0 : Nat) (HO4 : W0.ownsRow B0 5 1 r4 l.length (bytesV l)) (hq : ((x.name.length : Int) ≤ 255) = False) (t0 t2 t3 t5 t6 t7 t8 t9 t10 t11 t12 t13 t14 t15 t16 t17 t18 t19 t20 t21 t22 t23 t24 t25 t26 t27 t28 t29 t30 t31 t32 t33 t34 : Value) :
    (Code.region 2 #[{ dst := some 17, op := Op.move (Operand.tmp 4), type := 23, pos := "tab.go:92", after := #[], guard := none }, { dst := some 18, op := Op.fieldAddr 34 (Operand.tmp 1) 4, type := 0, pos := "tab.go:92", after := #[], guard := none }, { dst := some 19, op := Op.load 3 (Operand.tmp 18), type := 3, pos := "tab.go:92", after := #[{ on := 1, ground := Ground.data }], guard := none }, { dst := some 20, op := Op.call { callee := Callee.value (Operand.func 24), args := #[Operand.tmp 17, Operand.const (Value.int IntKind.i64 8), Operand.tmp 19], argTypes := #[23, 3, 3] }, type := 23, pos := "tab.go:92", after := #[{ on := 0, ground := Ground.data }, { on := 2, ground := Ground.data }], guard := none }, { dst := some 21, op := Op.fieldAddr 34 (Operand.tmp 1) 0, type := 0, pos := "tab.go:92", after := #[], guard := none }, { dst := some 22, op := Op.load 9 (Operand.tmp 21), type := 9, pos := "tab.go:92", after := #[{ on := 4, ground := Ground.data }], guard := none }, { dst := some 23, op := Op.call { callee := Callee.builtin Builtin.len, args := #[Operand.tmp 22], argTypes := #[9] }, type := 3, pos := "tab.go:92", after := #[{ on := 5, ground := Ground.data }], guard := none }, { dst := some 24, op := Op.binOp BinOp.leq 3 (Operand.tmp 23) (Operand.const (Value.int IntKind.i64 255)) 3, type := 4, pos := "tab.go:92", after := #[{ on := 6, ground := Ground.data }], guard := none }, { dst := some 25, op := Op.move (Operand.tmp 24), type := 4, pos := "tab.go:92", after := #[{ on := 7, ground := Ground.data }, { on := 3, ground := Ground.chain }], guard := none }, { dst := some 26, op := Op.fieldAddr 34 (Operand.tmp 1) 1, type := 0, pos := "tab.go:92", after := #[{ on := 8, ground := Ground.guard }], guard := some (8, true) }, { dst := some 27, op := Op.load 3 (Operand.tmp 26), type := 3, pos := "tab.go:92", after := #[{ on := 9, ground := Ground.data }, { on := 8, ground := Ground.guard }], guard := some (8, true) }, { dst := some 28, op := Op.fieldAddr 34 (Operand.tmp 1) 2, type := 0, pos := "tab.go:92", after := #[{ on := 8, ground := Ground.guard }], guard := some (8, true) }, { dst := some 29, op := Op.load 3 (Operand.tmp 28), type := 3, pos := "tab.go:92", after := #[{ on := 11, ground := Ground.data }, { on := 8, ground := Ground.guard }], guard := some (8, true) }, { dst := some 30, op := Op.fieldAddr 34 (Operand.tmp 1) 3, type := 0, pos := "tab.go:92", after := #[{ on := 8, ground := Ground.guard }], guard := some (8, true) }, { dst := some 31, op := Op.load 3 (Operand.tmp 30), type := 3, pos := "tab.go:92", after := #[{ on := 13, ground := Ground.data }, { on := 8, ground := Ground.guard }], guard := some (8, true) }, { dst := some 32, op := Op.buildSlice 75 3 #[(0, Operand.tmp 27), (1, Operand.tmp 29), (2, Operand.tmp 31)], type := 75, pos := "tab.go:92", after := #[{ on := 10, ground := Ground.data }, { on := 12, ground := Ground.data }, { on := 14, ground := Ground.data }, { on := 8, ground := Ground.guard }], guard := some (8, true) }, { dst := some 33, op := Op.call { callee := Callee.value (Operand.func 26), args := #[Operand.tmp 32], argTypes := #[75] }, type := 4, pos := "tab.go:92", after := #[{ on := 15, ground := Ground.data }, { on := 8, ground := Ground.chain }, { on := 8, ground := Ground.guard }], guard := some (8, true) }, { dst := some 34, op := Op.pick (Operand.tmp 25) (Operand.tmp 33) (Operand.const (Value.bool false)), type := 4, pos := "tab.go:92", after := #[{ on := 8, ground := Ground.data }, { on := 16, ground := Ground.data }, { on := 18, ground := Ground.gcOnly Departure.lateStores }], guard := none }, { dst := some 2, op := Op.assign (Operand.tmp 20), type := 23, pos := "tab.go:92", after := #[{ on := 3, ground := Ground.data }, { on := 16, ground := Ground.chain }, { on := 0, ground := Ground.phase }, { on := 1, ground := Ground.phase }, { on := 2, ground := Ground.phase }, { on := 3, ground := Ground.phase }, { on := 4, ground := Ground.textOnly Departure.lateStores }, { on := 5, ground := Ground.textOnly Departure.lateStores }, { on := 6, ground := Ground.textOnly Departure.lateStoresUnsure }, { on := 7, ground := Ground.textOnly Departure.lateStores }, { on := 8, ground := Ground.textOnly Departure.lateStores }, { on := 9, ground := Ground.textOnly Departure.lateStores }, { on := 10, ground := Ground.textOnly Departure.lateStores }, { on := 11, ground := Ground.textOnly Departure.lateStores }, { on := 12, ground := Ground.textOnly Departure.lateStores }, { on := 13, ground := Ground.textOnly Departure.lateStores }, { on := 14, ground := Ground.textOnly Departure.lateStores }, { on := 15, ground := Ground.textOnly Departure.lateStores }, { on := 16, ground := Ground.textOnly Departure.lateStoresUnsure }, { on := 17, ground := Ground.textOnly Departure.lateStores }], guard := none }, { dst := some 3, op := Op.assign (Operand.tmp 34), type := 4, pos := "tab.go:92", after := #[{ on := 17, ground := Ground.data }, { on := 18, ground := Ground.chain }, { on := 0, ground := Ground.phase }, { on := 1, ground := Ground.phase }, { on := 2, ground := Ground.phase }, { on := 3, ground := Ground.phase }, { on := 4, ground := Ground.phase }, { on := 5, ground := Ground.phase }, { on := 6, ground := Ground.phase }, { on := 7, ground := Ground.phase }, { on := 8, ground := Ground.phase }, { on := 9, ground := Ground.phase }, { on := 10, ground := Ground.phase }, { on := 11, ground := Ground.phase }, { on := 12, ground := Ground.phase }, { on := 13, ground := Ground.phase }, { on := 14, ground := Ground.phase }, { on := 15, ground := Ground.phase }, { on := 16, ground := Ground.phase }, { on := 17, ground := Ground.phase }, { on := 18, ground := Ground.phase }], guard := none }] true).wp Try.prog (fun e b v => e = Exit.normal ∧ ∃ u2 u3 u17 u18 u19 u20 u21 u22 u23 u24 u25 u26 u27 u28 u29 u30 u31 u32 u33 u34 : Value, b = ⟨#[t0, .pointer (some ⟨g, 0, none⟩), u2, u3, r4, t5, t6, t7, t8, t9, t10, t11, t12, t13, t14, t15, t16, u17, u18, u19, u20, u21, u22, u23, u24, u25, u26, u27, u28, u29, u30, u31, u32, u33, u34], []⟩ ∧ Below W0.heap.size W0 v ∧ (v.ownsRow W0.heap.size 5 1 u2 (l.length + 8) (bytesV (l ++ putL 8 x.init))) ∧ (u3 = .bool false)) ⟨#[t0, .pointer (some ⟨g, 0, none⟩), t2, t3, r4, t5, t6, t7, t8, t9, t10, t11, t12, t13, t14, t15, t16, t17, t18, t19, t20, t21, t22, t23, t24, t25, t26, t27, t28, t29, t30, t31, t32, t33, t34], []⟩ W0 := by
  refine wp_region_facts (n := 20) (fun L b v => ∃ u2 u3 u17 u18 u19 u20 u21 u22 u23 u24 u25 u26 u27 u28 u29 u30 u31 u32 u33 u34 : Value, b = ⟨#[t0, .pointer (some ⟨g, 0, none⟩), u2, u3, r4, t5, t6, t7, t8, t9, t10, t11, t12, t13, t14, t15, t16, u17, u18, u19, u20, u21, u22, u23, u24, u25, u26, u27, u28, u29, u30, u31, u32, u33, u34], []⟩ ∧ Below W0.heap.size W0 v ∧ (L.getD 0 false = true → u17 = r4) ∧ (L.getD 1 false = true → u18 = .pointer (some ⟨g, 4, none⟩)) ∧ (L.getD 2 false = true → u19 = .int .i64 x.init) ∧ (L.getD 3 false = true → v.ownsRow W0.heap.size 5 1 u20 (l.length + 8) (bytesV (l ++ putL 8 x.init))) ∧ (L.getD 4 false = true → u21 = .pointer (some ⟨g, 0, none⟩)) ∧ (L.getD 5 false = true → u22 = .string ⟨x.name.toArray⟩) ∧ (L.getD 6 false = true → u23 = .int .i64 x.name.length) ∧ (L.getD 7 false = true → u24 = .bool false) ∧ (L.getD 8 false = true → u25 = .bool false) ∧ (L.getD 17 false = true → u34 = .bool false) ∧ (L.getD 18 false = true → v.ownsRow W0.heap.size 5 1 u2 (l.length + 8) (bytesV (l ++ putL 8 x.init))) ∧ (L.getD 19 false = true → u3 = .bool false)) (by kernel_rfl) (by kernel_rfl) (by kernel_rfl) ?_ ?_ ?_
  · refine ⟨_, _, _, _, _, _, _, _, _, _, _, _, _, _, _, _, _, _, _, _, rfl, (Below.refl _ _).drew, flag_new, flag_new, flag_new, flag_new, flag_new, flag_new, flag_new, flag_new, flag_new, flag_new, flag_new, flag_new⟩
  · refine AllSteps.succ (AllSteps.succ (AllSteps.succ (AllSteps.succ (AllSteps.succ (AllSteps.succ (AllSteps.succ (AllSteps.succ (AllSteps.succ (AllSteps.succ (AllSteps.succ (AllSteps.succ (AllSteps.succ (AllSteps.succ (AllSteps.succ (AllSteps.succ (AllSteps.succ (AllSteps.succ (AllSteps.succ (AllSteps.succ AllSteps.zero ?_) ?_) ?_) ?_) ?_) ?_) ?_) ?_) ?_) ?_) ?_) ?_) ?_) ?_) ?_) ?_) ?_) ?_) ?_) ?_
    · refine StepAt.mk (o := { dst := some 17, op := Op.move (Operand.tmp 4), type := 23, pos := _, after := #[], guard := none }) (ws := []) rfl (by kernel_rfl) ?_
      rintro L b v hC h0 hA ⟨u2, u3, u17, u18, u19, u20, u21, u22, u23, u24, u25, u26, u27, u28, u29, u30, u31, u32, u33, u34, rfl, hHeld, f0, f1, f2, f3, f4, f5, f6, f7, f8, f17, f18, f19⟩ K hK
      rw [if_pos (by kernel_rfl)]
      have q0 := cellB hHeld C0 hg
      have q1 := cellB hHeld C1 hg
      have q2 := cellB hHeld C2 hg
      have q3 := cellB hHeld C3 hg
      have q4 := cellB hHeld C4 hg
      go_simp
      try simp only [Act.put, List.setIfInBounds_toArray, List.set_cons_zero, List.set_cons_succ]
      refine hK.out _ _ ⟨_, _, _, _, _, _, _, _, _, _, _, _, _, _, _, _, _, _, _, _, rfl, ?_, ?_, ?_, ?_, ?_, ?_, ?_, ?_, ?_, ?_, ?_, ?_, ?_⟩
      · first | exact hHeld | exact hHeld.trans (hb.mono hHeld.size) | (trace_state; fail)
      · intro _; first | rfl | (trace_state; fail)
      · first | exact flag_ne (by decide) f1 | exact fun _ => rfl
      · first | exact flag_ne (by decide) f2 | exact fun _ => rfl
      · intro h; rw [getD_set_ne false (by decide)] at h; exact (getD_no h0 (hC.step (j := 3) (k := 0) h (by kernel_rfl))).elim
      · first | exact flag_ne (by decide) f4 | exact fun _ => rfl
      · first | exact flag_ne (by decide) f5 | exact fun _ => rfl
      · first | exact flag_ne (by decide) f6 | exact fun _ => rfl
      · first | exact flag_ne (by decide) f7 | exact fun _ => rfl
      · first | exact flag_ne (by decide) f8 | exact fun _ => rfl
      · first | exact flag_ne (by decide) f17 | exact fun _ => rfl
      · intro h; rw [getD_set_ne false (by decide)] at h; exact (getD_no h0 (hC.step (j := 18) (k := 0) h (by kernel_rfl))).elim
      · first | exact flag_ne (by decide) f19 | exact fun _ => rfl
    · refine StepAt.mk (o := { dst := some 18, op := Op.fieldAddr 34 (Operand.tmp 1) 4, type := 0, pos := _, after := #[], guard := none }) (ws := []) rfl (by kernel_rfl) ?_
      rintro L b v hC h0 hA ⟨u2, u3, u17, u18, u19, u20, u21, u22, u23, u24, u25, u26, u27, u28, u29, u30, u31, u32, u33, u34, rfl, hHeld, f0, f1, f2, f3, f4, f5, f6, f7, f8, f17, f18, f19⟩ K hK
      rw [if_pos (by kernel_rfl)]
      have q0 := cellB hHeld C0 hg
      have q1 := cellB hHeld C1 hg
      have q2 := cellB hHeld C2 hg
      have q3 := cellB hHeld C3 hg
      have q4 := cellB hHeld C4 hg
      go_simp
      try simp only [Act.put, List.setIfInBounds_toArray, List.set_cons_zero, List.set_cons_succ]
      refine hK.out _ _ ⟨_, _, _, _, _, _, _, _, _, _, _, _, _, _, _, _, _, _, _, _, rfl, ?_, ?_, ?_, ?_, ?_, ?_, ?_, ?_, ?_, ?_, ?_, ?_, ?_⟩
      · first | exact hHeld | exact hHeld.trans (hb.mono hHeld.size) | (trace_state; fail)
      · first | exact flag_ne (by decide) f0 | exact fun _ => rfl
      · intro _; first | rfl | (trace_state; fail)
      · first | exact flag_ne (by decide) f2 | exact fun _ => rfl
      · intro h; rw [getD_set_ne false (by decide)] at h; exact (getD_no h0 (hC.step (j := 2) (k := 1) (hC.step (j := 3) (k := 2) h (by kernel_rfl)) (by kernel_rfl))).elim
      · first | exact flag_ne (by decide) f4 | exact fun _ => rfl
      · first | exact flag_ne (by decide) f5 | exact fun _ => rfl
      · first | exact flag_ne (by decide) f6 | exact fun _ => rfl
      · first | exact flag_ne (by decide) f7 | exact fun _ => rfl
      · first | exact flag_ne (by decide) f8 | exact fun _ => rfl
      · first | exact flag_ne (by decide) f17 | exact fun _ => rfl
      · intro h; rw [getD_set_ne false (by decide)] at h; exact (getD_no h0 (hC.step (j := 18) (k := 1) h (by kernel_rfl))).elim
      · first | exact flag_ne (by decide) f19 | exact fun _ => rfl
    · refine StepAt.mk (o := { dst := some 19, op := Op.load 3 (Operand.tmp 18), type := 3, pos := _, after := #[{ on := 1, ground := Ground.data }], guard := none }) (ws := [1]) rfl (by kernel_rfl) ?_
      rintro L b v hC h0 hA ⟨u2, u3, u17, u18, u19, u20, u21, u22, u23, u24, u25, u26, u27, u28, u29, u30, u31, u32, u33, u34, rfl, hHeld, f0, f1, f2, f3, f4, f5, f6, f7, f8, f17, f18, f19⟩ K hK
      have g1 := f1 (hA 1 (by simp))
      obtain rfl := g1
      rw [if_pos (by kernel_rfl)]
      have q0 := cellB hHeld C0 hg
      have q1 := cellB hHeld C1 hg
      have q2 := cellB hHeld C2 hg
      have q3 := cellB hHeld C3 hg
      have q4 := cellB hHeld C4 hg
      go_simp
      try simp only [Act.put, List.setIfInBounds_toArray, List.set_cons_zero, List.set_cons_succ]
      refine hK.out _ _ ⟨_, _, _, _, _, _, _, _, _, _, _, _, _, _, _, _, _, _, _, _, rfl, ?_, ?_, ?_, ?_, ?_, ?_, ?_, ?_, ?_, ?_, ?_, ?_, ?_⟩
      · first | exact hHeld | exact hHeld.trans (hb.mono hHeld.size) | (trace_state; fail)
      · first | exact flag_ne (by decide) f0 | exact fun _ => rfl
      · first | exact flag_ne (by decide) f1 | exact fun _ => rfl
      · intro _; first | rfl | (trace_state; fail)
      · intro h; rw [getD_set_ne false (by decide)] at h; exact (getD_no h0 (hC.step (j := 3) (k := 2) h (by kernel_rfl))).elim
      · first | exact flag_ne (by decide) f4 | exact fun _ => rfl
      · first | exact flag_ne (by decide) f5 | exact fun _ => rfl
      · first | exact flag_ne (by decide) f6 | exact fun _ => rfl
      · first | exact flag_ne (by decide) f7 | exact fun _ => rfl
      · first | exact flag_ne (by decide) f8 | exact fun _ => rfl
      · first | exact flag_ne (by decide) f17 | exact fun _ => rfl
      · intro h; rw [getD_set_ne false (by decide)] at h; exact (getD_no h0 (hC.step (j := 18) (k := 2) h (by kernel_rfl))).elim
      · first | exact flag_ne (by decide) f19 | exact fun _ => rfl
    · refine StepAt.mk (o := { dst := some 20, op := Op.call { callee := Callee.value (Operand.func 24), args := #[Operand.tmp 17, Operand.const (Value.int IntKind.i64 8), Operand.tmp 19], argTypes := #[23, 3, 3] }, type := 23, pos := _, after := #[{ on := 0, ground := Ground.data }, { on := 2, ground := Ground.data }], guard := none }) (ws := [0, 2]) rfl (by kernel_rfl) ?_
      rintro L b v hC h0 hA ⟨u2, u3, u17, u18, u19, u20, u21, u22, u23, u24, u25, u26, u27, u28, u29, u30, u31, u32, u33, u34, rfl, hHeld, f0, f1, f2, f3, f4, f5, f6, f7, f8, f17, f18, f19⟩ K hK
      have g0 := f0 (hA 0 (by simp))
      obtain rfl := g0
      have g2 := f2 (hA 2 (by simp))
      obtain rfl := g2
      rw [if_pos (by kernel_rfl)]
      have q0 := cellB hHeld C0 hg
      have q1 := cellB hHeld C1 hg
      have q2 := cellB hHeld C2 hg
      have q3 := cellB hHeld C3 hg
      have q4 := cellB hHeld C4 hg
      go_simp
      refine (octet_Put _ l 8 x.init v (RowAt.owns (owns_below HO4 hHeld) (fun i hi => byteV_at hi)) (by omega)).mono ?_; rintro e v1 ⟨r, rfl, HO, hb⟩
      go_wp2_with fail
      try simp only [Act.put, List.setIfInBounds_toArray, List.set_cons_zero, List.set_cons_succ]
      refine hK.out _ _ ⟨_, _, _, _, _, _, _, _, _, _, _, _, _, _, _, _, _, _, _, _, rfl, ?_, ?_, ?_, ?_, ?_, ?_, ?_, ?_, ?_, ?_, ?_, ?_, ?_⟩
      · first | exact hHeld | exact hHeld.trans (hb.mono hHeld.size) | (trace_state; fail)
      · first | exact flag_ne (by decide) f0 | exact fun _ => rfl
      · first | exact flag_ne (by decide) f1 | exact fun _ => rfl
      · first | exact flag_ne (by decide) f2 | exact fun _ => rfl
      · intro _; first | exact own_low HO hHeld.size | (trace_state; fail)
      · first | exact flag_ne (by decide) f4 | exact fun _ => rfl
      · first | exact flag_ne (by decide) f5 | exact fun _ => rfl
      · first | exact flag_ne (by decide) f6 | exact fun _ => rfl
      · first | exact flag_ne (by decide) f7 | exact fun _ => rfl
      · first | exact flag_ne (by decide) f8 | exact fun _ => rfl
      · first | exact flag_ne (by decide) f17 | exact fun _ => rfl
      · intro h; rw [getD_set_ne false (by decide)] at h; exact (getD_no h0 (hC.step (j := 18) (k := 3) h (by kernel_rfl))).elim
      · first | exact flag_ne (by decide) f19 | exact fun _ => rfl
    · refine StepAt.mk (o := { dst := some 21, op := Op.fieldAddr 34 (Operand.tmp 1) 0, type := 0, pos := _, after := #[], guard := none }) (ws := []) rfl (by kernel_rfl) ?_
      rintro L b v hC h0 hA ⟨u2, u3, u17, u18, u19, u20, u21, u22, u23, u24, u25, u26, u27, u28, u29, u30, u31, u32, u33, u34, rfl, hHeld, f0, f1, f2, f3, f4, f5, f6, f7, f8, f17, f18, f19⟩ K hK
      rw [if_pos (by kernel_rfl)]
      have q0 := cellB hHeld C0 hg
      have q1 := cellB hHeld C1 hg
      have q2 := cellB hHeld C2 hg
      have q3 := cellB hHeld C3 hg
      have q4 := cellB hHeld C4 hg
      go_simp
      try simp only [Act.put, List.setIfInBounds_toArray, List.set_cons_zero, List.set_cons_succ]
      refine hK.out _ _ ⟨_, _, _, _, _, _, _, _, _, _, _, _, _, _, _, _, _, _, _, _, rfl, ?_, ?_, ?_, ?_, ?_, ?_, ?_, ?_, ?_, ?_, ?_, ?_, ?_⟩
      · first | exact hHeld | exact hHeld.trans (hb.mono hHeld.size) | (trace_state; fail)
      · first | exact flag_ne (by decide) f0 | exact fun _ => rfl
      · first | exact flag_ne (by decide) f1 | exact fun _ => rfl
      · first | exact flag_ne (by decide) f2 | exact fun _ => rfl
      · intro h; rw [getD_set_ne false (by decide)] at h; have := f3 h; first | exact this | exact owns_below this hb | (trace_state; fail)
      · intro _; first | rfl | (trace_state; fail)
      · first | exact flag_ne (by decide) f5 | exact fun _ => rfl
      · first | exact flag_ne (by decide) f6 | exact fun _ => rfl
      · first | exact flag_ne (by decide) f7 | exact fun _ => rfl
      · first | exact flag_ne (by decide) f8 | exact fun _ => rfl
      · first | exact flag_ne (by decide) f17 | exact fun _ => rfl
      · intro h; rw [getD_set_ne false (by decide)] at h; exact (getD_no h0 (hC.step (j := 5) (k := 4) (hC.step (j := 6) (k := 5) (hC.step (j := 7) (k := 6) (hC.step (j := 8) (k := 7) (hC.step (j := 16) (k := 8) (hC.step (j := 18) (k := 16) h (by kernel_rfl)) (by kernel_rfl)) (by kernel_rfl)) (by kernel_rfl)) (by kernel_rfl)) (by kernel_rfl))).elim
      · first | exact flag_ne (by decide) f19 | exact fun _ => rfl
    · refine StepAt.mk (o := { dst := some 22, op := Op.load 9 (Operand.tmp 21), type := 9, pos := _, after := #[{ on := 4, ground := Ground.data }], guard := none }) (ws := [4]) rfl (by kernel_rfl) ?_
      rintro L b v hC h0 hA ⟨u2, u3, u17, u18, u19, u20, u21, u22, u23, u24, u25, u26, u27, u28, u29, u30, u31, u32, u33, u34, rfl, hHeld, f0, f1, f2, f3, f4, f5, f6, f7, f8, f17, f18, f19⟩ K hK
      have g4 := f4 (hA 4 (by simp))
      obtain rfl := g4
      rw [if_pos (by kernel_rfl)]
      have q0 := cellB hHeld C0 hg
      have q1 := cellB hHeld C1 hg
      have q2 := cellB hHeld C2 hg
      have q3 := cellB hHeld C3 hg
      have q4 := cellB hHeld C4 hg
      go_simp
      try simp only [Act.put, List.setIfInBounds_toArray, List.set_cons_zero, List.set_cons_succ]
      refine hK.out _ _ ⟨_, _, _, _, _, _, _, _, _, _, _, _, _, _, _, _, _, _, _, _, rfl, ?_, ?_, ?_, ?_, ?_, ?_, ?_, ?_, ?_, ?_, ?_, ?_, ?_⟩
      · first | exact hHeld | exact hHeld.trans (hb.mono hHeld.size) | (trace_state; fail)
      · first | exact flag_ne (by decide) f0 | exact fun _ => rfl
      · first | exact flag_ne (by decide) f1 | exact fun _ => rfl
      · first | exact flag_ne (by decide) f2 | exact fun _ => rfl
      · intro h; rw [getD_set_ne false (by decide)] at h; have := f3 h; first | exact this | exact owns_below this hb | (trace_state; fail)
      · first | exact flag_ne (by decide) f4 | exact fun _ => rfl
      · intro _; first | rfl | (trace_state; fail)
      · first | exact flag_ne (by decide) f6 | exact fun _ => rfl
      · first | exact flag_ne (by decide) f7 | exact fun _ => rfl
      · first | exact flag_ne (by decide) f8 | exact fun _ => rfl
      · first | exact flag_ne (by decide) f17 | exact fun _ => rfl
      · intro h; rw [getD_set_ne false (by decide)] at h; exact (getD_no h0 (hC.step (j := 6) (k := 5) (hC.step (j := 7) (k := 6) (hC.step (j := 8) (k := 7) (hC.step (j := 16) (k := 8) (hC.step (j := 18) (k := 16) h (by kernel_rfl)) (by kernel_rfl)) (by kernel_rfl)) (by kernel_rfl)) (by kernel_rfl))).elim
      · first | exact flag_ne (by decide) f19 | exact fun _ => rfl
    · refine StepAt.mk (o := { dst := some 23, op := Op.call { callee := Callee.builtin Builtin.len, args := #[Operand.tmp 22], argTypes := #[9] }, type := 3, pos := _, after := #[{ on := 5, ground := Ground.data }], guard := none }) (ws := [5]) rfl (by kernel_rfl) ?_
      rintro L b v hC h0 hA ⟨u2, u3, u17, u18, u19, u20, u21, u22, u23, u24, u25, u26, u27, u28, u29, u30, u31, u32, u33, u34, rfl, hHeld, f0, f1, f2, f3, f4, f5, f6, f7, f8, f17, f18, f19⟩ K hK
      have g5 := f5 (hA 5 (by simp))
      obtain rfl := g5
      rw [if_pos (by kernel_rfl)]
      have q0 := cellB hHeld C0 hg
      have q1 := cellB hHeld C1 hg
      have q2 := cellB hHeld C2 hg
      have q3 := cellB hHeld C3 hg
      have q4 := cellB hHeld C4 hg
      go_simp
      try simp only [Act.put, List.setIfInBounds_toArray, List.set_cons_zero, List.set_cons_succ]
      refine hK.out _ _ ⟨_, _, _, _, _, _, _, _, _, _, _, _, _, _, _, _, _, _, _, _, rfl, ?_, ?_, ?_, ?_, ?_, ?_, ?_, ?_, ?_, ?_, ?_, ?_, ?_⟩
      · first | exact hHeld | exact hHeld.trans (hb.mono hHeld.size) | (trace_state; fail)
      · first | exact flag_ne (by decide) f0 | exact fun _ => rfl
      · first | exact flag_ne (by decide) f1 | exact fun _ => rfl
      · first | exact flag_ne (by decide) f2 | exact fun _ => rfl
      · intro h; rw [getD_set_ne false (by decide)] at h; have := f3 h; first | exact this | exact owns_below this hb | (trace_state; fail)
      · first | exact flag_ne (by decide) f4 | exact fun _ => rfl
      · first | exact flag_ne (by decide) f5 | exact fun _ => rfl
      · intro _; first | rfl | (trace_state; fail)
      · first | exact flag_ne (by decide) f7 | exact fun _ => rfl
      · first | exact flag_ne (by decide) f8 | exact fun _ => rfl
      · first | exact flag_ne (by decide) f17 | exact fun _ => rfl
      · intro h; rw [getD_set_ne false (by decide)] at h; exact (getD_no h0 (hC.step (j := 7) (k := 6) (hC.step (j := 8) (k := 7) (hC.step (j := 16) (k := 8) (hC.step (j := 18) (k := 16) h (by kernel_rfl)) (by kernel_rfl)) (by kernel_rfl)) (by kernel_rfl))).elim
      · first | exact flag_ne (by decide) f19 | exact fun _ => rfl
    · refine StepAt.mk (o := { dst := some 24, op := Op.binOp BinOp.leq 3 (Operand.tmp 23) (Operand.const (Value.int IntKind.i64 255)) 3, type := 4, pos := _, after := #[{ on := 6, ground := Ground.data }], guard := none }) (ws := [6]) rfl (by kernel_rfl) ?_
      rintro L b v hC h0 hA ⟨u2, u3, u17, u18, u19, u20, u21, u22, u23, u24, u25, u26, u27, u28, u29, u30, u31, u32, u33, u34, rfl, hHeld, f0, f1, f2, f3, f4, f5, f6, f7, f8, f17, f18, f19⟩ K hK
      have g6 := f6 (hA 6 (by simp))
      obtain rfl := g6
      rw [if_pos (by kernel_rfl)]
      have q0 := cellB hHeld C0 hg
      have q1 := cellB hHeld C1 hg
      have q2 := cellB hHeld C2 hg
      have q3 := cellB hHeld C3 hg
      have q4 := cellB hHeld C4 hg
      go_simp
      try simp only [Act.put, List.setIfInBounds_toArray, List.set_cons_zero, List.set_cons_succ]
      refine hK.out _ _ ⟨_, _, _, _, _, _, _, _, _, _, _, _, _, _, _, _, _, _, _, _, rfl, ?_, ?_, ?_, ?_, ?_, ?_, ?_, ?_, ?_, ?_, ?_, ?_, ?_⟩
      · first | exact hHeld | exact hHeld.trans (hb.mono hHeld.size) | (trace_state; fail)
      · first | exact flag_ne (by decide) f0 | exact fun _ => rfl
      · first | exact flag_ne (by decide) f1 | exact fun _ => rfl
      · first | exact flag_ne (by decide) f2 | exact fun _ => rfl
      · intro h; rw [getD_set_ne false (by decide)] at h; have := f3 h; first | exact this | exact owns_below this hb | (trace_state; fail)
      · first | exact flag_ne (by decide) f4 | exact fun _ => rfl
      · first | exact flag_ne (by decide) f5 | exact fun _ => rfl
      · first | exact flag_ne (by decide) f6 | exact fun _ => rfl
      · intro _; first | rfl | (trace_state; fail)
      · first | exact flag_ne (by decide) f8 | exact fun _ => rfl
      · first | exact flag_ne (by decide) f17 | exact fun _ => rfl
      · intro h; rw [getD_set_ne false (by decide)] at h; exact (getD_no h0 (hC.step (j := 8) (k := 7) (hC.step (j := 16) (k := 8) (hC.step (j := 18) (k := 16) h (by kernel_rfl)) (by kernel_rfl)) (by kernel_rfl))).elim
      · first | exact flag_ne (by decide) f19 | exact fun _ => rfl
    · refine StepAt.mk (o := { dst := some 25, op := Op.move (Operand.tmp 24), type := 4, pos := _, after := #[{ on := 7, ground := Ground.data }, { on := 3, ground := Ground.chain }], guard := none }) (ws := [7, 3]) rfl (by kernel_rfl) ?_
      rintro L b v hC h0 hA ⟨u2, u3, u17, u18, u19, u20, u21, u22, u23, u24, u25, u26, u27, u28, u29, u30, u31, u32, u33, u34, rfl, hHeld, f0, f1, f2, f3, f4, f5, f6, f7, f8, f17, f18, f19⟩ K hK
      have g7 := f7 (hA 7 (by simp))
      obtain rfl := g7
      have g3 := f3 (hA 3 (by simp))
      rw [if_pos (by kernel_rfl)]
      have q0 := cellB hHeld C0 hg
      have q1 := cellB hHeld C1 hg
      have q2 := cellB hHeld C2 hg
      have q3 := cellB hHeld C3 hg
      have q4 := cellB hHeld C4 hg
      go_simp
      try simp only [Act.put, List.setIfInBounds_toArray, List.set_cons_zero, List.set_cons_succ]
      refine hK.out _ _ ⟨_, _, _, _, _, _, _, _, _, _, _, _, _, _, _, _, _, _, _, _, rfl, ?_, ?_, ?_, ?_, ?_, ?_, ?_, ?_, ?_, ?_, ?_, ?_, ?_⟩
      · first | exact hHeld | exact hHeld.trans (hb.mono hHeld.size) | (trace_state; fail)
      · first | exact flag_ne (by decide) f0 | exact fun _ => rfl
      · first | exact flag_ne (by decide) f1 | exact fun _ => rfl
      · first | exact flag_ne (by decide) f2 | exact fun _ => rfl
      · intro h; rw [getD_set_ne false (by decide)] at h; have := f3 h; first | exact this | exact owns_below this hb | (trace_state; fail)
      · first | exact flag_ne (by decide) f4 | exact fun _ => rfl
      · first | exact flag_ne (by decide) f5 | exact fun _ => rfl
      · first | exact flag_ne (by decide) f6 | exact fun _ => rfl
      · first | exact flag_ne (by decide) f7 | exact fun _ => rfl
      · intro _; first | rfl | (trace_state; fail)
      · first | exact flag_ne (by decide) f17 | exact fun _ => rfl
      · intro h; rw [getD_set_ne false (by decide)] at h; exact (getD_no h0 (hC.step (j := 16) (k := 8) (hC.step (j := 18) (k := 16) h (by kernel_rfl)) (by kernel_rfl))).elim
      · first | exact flag_ne (by decide) f19 | exact fun _ => rfl
    · refine StepAt.mk (o := { dst := some 26, op := Op.fieldAddr 34 (Operand.tmp 1) 1, type := 0, pos := _, after := #[{ on := 8, ground := Ground.guard }], guard := some (8, true) }) (ws := [8]) rfl (by kernel_rfl) ?_
      rintro L b v hC h0 hA ⟨u2, u3, u17, u18, u19, u20, u21, u22, u23, u24, u25, u26, u27, u28, u29, u30, u31, u32, u33, u34, rfl, hHeld, f0, f1, f2, f3, f4, f5, f6, f7, f8, f17, f18, f19⟩ K hK
      have g8 := f8 (hA 8 (by simp))
      obtain rfl := g8
      rw [if_neg (Bool.eq_false_iff.1 (by kernel_rfl))]
      try simp only [Act.put, List.setIfInBounds_toArray, List.set_cons_zero, List.set_cons_succ]
      refine hK.out _ _ ⟨_, _, _, _, _, _, _, _, _, _, _, _, _, _, _, _, _, _, _, _, rfl, ?_, ?_, ?_, ?_, ?_, ?_, ?_, ?_, ?_, ?_, ?_, ?_, ?_⟩
      · first | exact hHeld | exact hHeld.trans (hb.mono hHeld.size) | (trace_state; fail)
      · first | exact flag_ne (by decide) f0 | exact fun _ => rfl
      · first | exact flag_ne (by decide) f1 | exact fun _ => rfl
      · first | exact flag_ne (by decide) f2 | exact fun _ => rfl
      · intro h; rw [getD_set_ne false (by decide)] at h; have := f3 h; first | exact this | exact owns_below this hb | (trace_state; fail)
      · first | exact flag_ne (by decide) f4 | exact fun _ => rfl
      · first | exact flag_ne (by decide) f5 | exact fun _ => rfl
      · first | exact flag_ne (by decide) f6 | exact fun _ => rfl
      · first | exact flag_ne (by decide) f7 | exact fun _ => rfl
      · first | exact flag_ne (by decide) f8 | exact fun _ => rfl
      · first | exact flag_ne (by decide) f17 | exact fun _ => rfl
      · intro h; rw [getD_set_ne false (by decide)] at h; exact (getD_no h0 (hC.step (j := 10) (k := 9) (hC.step (j := 15) (k := 10) (hC.step (j := 16) (k := 15) (hC.step (j := 18) (k := 16) h (by kernel_rfl)) (by kernel_rfl)) (by kernel_rfl)) (by kernel_rfl))).elim
      · first | exact flag_ne (by decide) f19 | exact fun _ => rfl
    · refine StepAt.mk (o := { dst := some 27, op := Op.load 3 (Operand.tmp 26), type := 3, pos := _, after := #[{ on := 9, ground := Ground.data }, { on := 8, ground := Ground.guard }], guard := some (8, true) }) (ws := [9, 8]) rfl (by kernel_rfl) ?_
      rintro L b v hC h0 hA ⟨u2, u3, u17, u18, u19, u20, u21, u22, u23, u24, u25, u26, u27, u28, u29, u30, u31, u32, u33, u34, rfl, hHeld, f0, f1, f2, f3, f4, f5, f6, f7, f8, f17, f18, f19⟩ K hK
      have g8 := f8 (hA 8 (by simp))
      obtain rfl := g8
      rw [if_neg (Bool.eq_false_iff.1 (by kernel_rfl))]
      try simp only [Act.put, List.setIfInBounds_toArray, List.set_cons_zero, List.set_cons_succ]
      refine hK.out _ _ ⟨_, _, _, _, _, _, _, _, _, _, _, _, _, _, _, _, _, _, _, _, rfl, ?_, ?_, ?_, ?_, ?_, ?_, ?_, ?_, ?_, ?_, ?_, ?_, ?_⟩
      · first | exact hHeld | exact hHeld.trans (hb.mono hHeld.size) | (trace_state; fail)
      · first | exact flag_ne (by decide) f0 | exact fun _ => rfl
      · first | exact flag_ne (by decide) f1 | exact fun _ => rfl
      · first | exact flag_ne (by decide) f2 | exact fun _ => rfl
      · intro h; rw [getD_set_ne false (by decide)] at h; have := f3 h; first | exact this | exact owns_below this hb | (trace_state; fail)
      · first | exact flag_ne (by decide) f4 | exact fun _ => rfl
      · first | exact flag_ne (by decide) f5 | exact fun _ => rfl
      · first | exact flag_ne (by decide) f6 | exact fun _ => rfl
      · first | exact flag_ne (by decide) f7 | exact fun _ => rfl
      · first | exact flag_ne (by decide) f8 | exact fun _ => rfl
      · first | exact flag_ne (by decide) f17 | exact fun _ => rfl
      · intro h; rw [getD_set_ne false (by decide)] at h; exact (getD_no h0 (hC.step (j := 15) (k := 10) (hC.step (j := 16) (k := 15) (hC.step (j := 18) (k := 16) h (by kernel_rfl)) (by kernel_rfl)) (by kernel_rfl))).elim
      · first | exact flag_ne (by decide) f19 | exact fun _ => rfl
    · refine StepAt.mk (o := { dst := some 28, op := Op.fieldAddr 34 (Operand.tmp 1) 2, type := 0, pos := _, after := #[{ on := 8, ground := Ground.guard }], guard := some (8, true) }) (ws := [8]) rfl (by kernel_rfl) ?_
      rintro L b v hC h0 hA ⟨u2, u3, u17, u18, u19, u20, u21, u22, u23, u24, u25, u26, u27, u28, u29, u30, u31, u32, u33, u34, rfl, hHeld, f0, f1, f2, f3, f4, f5, f6, f7, f8, f17, f18, f19⟩ K hK
      have g8 := f8 (hA 8 (by simp))
      obtain rfl := g8
      rw [if_neg (Bool.eq_false_iff.1 (by kernel_rfl))]
      try simp only [Act.put, List.setIfInBounds_toArray, List.set_cons_zero, List.set_cons_succ]
      refine hK.out _ _ ⟨_, _, _, _, _, _, _, _, _, _, _, _, _, _, _, _, _, _, _, _, rfl, ?_, ?_, ?_, ?_, ?_, ?_, ?_, ?_, ?_, ?_, ?_, ?_, ?_⟩
      · first | exact hHeld | exact hHeld.trans (hb.mono hHeld.size) | (trace_state; fail)
      · first | exact flag_ne (by decide) f0 | exact fun _ => rfl
      · first | exact flag_ne (by decide) f1 | exact fun _ => rfl
      · first | exact flag_ne (by decide) f2 | exact fun _ => rfl
      · intro h; rw [getD_set_ne false (by decide)] at h; have := f3 h; first | exact this | exact owns_below this hb | (trace_state; fail)
      · first | exact flag_ne (by decide) f4 | exact fun _ => rfl
      · first | exact flag_ne (by decide) f5 | exact fun _ => rfl
      · first | exact flag_ne (by decide) f6 | exact fun _ => rfl
      · first | exact flag_ne (by decide) f7 | exact fun _ => rfl
      · first | exact flag_ne (by decide) f8 | exact fun _ => rfl
      · first | exact flag_ne (by decide) f17 | exact fun _ => rfl
      · intro h; rw [getD_set_ne false (by decide)] at h; exact (getD_no h0 (hC.step (j := 12) (k := 11) (hC.step (j := 15) (k := 12) (hC.step (j := 16) (k := 15) (hC.step (j := 18) (k := 16) h (by kernel_rfl)) (by kernel_rfl)) (by kernel_rfl)) (by kernel_rfl))).elim
      · first | exact flag_ne (by decide) f19 | exact fun _ => rfl
    · refine StepAt.mk (o := { dst := some 29, op := Op.load 3 (Operand.tmp 28), type := 3, pos := _, after := #[{ on := 11, ground := Ground.data }, { on := 8, ground := Ground.guard }], guard := some (8, true) }) (ws := [11, 8]) rfl (by kernel_rfl) ?_
      rintro L b v hC h0 hA ⟨u2, u3, u17, u18, u19, u20, u21, u22, u23, u24, u25, u26, u27, u28, u29, u30, u31, u32, u33, u34, rfl, hHeld, f0, f1, f2, f3, f4, f5, f6, f7, f8, f17, f18, f19⟩ K hK
      have g8 := f8 (hA 8 (by simp))
      obtain rfl := g8
      rw [if_neg (Bool.eq_false_iff.1 (by kernel_rfl))]
      try simp only [Act.put, List.setIfInBounds_toArray, List.set_cons_zero, List.set_cons_succ]
      refine hK.out _ _ ⟨_, _, _, _, _, _, _, _, _, _, _, _, _, _, _, _, _, _, _, _, rfl, ?_, ?_, ?_, ?_, ?_, ?_, ?_, ?_, ?_, ?_, ?_, ?_, ?_⟩
      · first | exact hHeld | exact hHeld.trans (hb.mono hHeld.size) | (trace_state; fail)
      · first | exact flag_ne (by decide) f0 | exact fun _ => rfl
      · first | exact flag_ne (by decide) f1 | exact fun _ => rfl
      · first | exact flag_ne (by decide) f2 | exact fun _ => rfl
      · intro h; rw [getD_set_ne false (by decide)] at h; have := f3 h; first | exact this | exact owns_below this hb | (trace_state; fail)
      · first | exact flag_ne (by decide) f4 | exact fun _ => rfl
      · first | exact flag_ne (by decide) f5 | exact fun _ => rfl
      · first | exact flag_ne (by decide) f6 | exact fun _ => rfl
      · first | exact flag_ne (by decide) f7 | exact fun _ => rfl
      · first | exact flag_ne (by decide) f8 | exact fun _ => rfl
      · first | exact flag_ne (by decide) f17 | exact fun _ => rfl
      · intro h; rw [getD_set_ne false (by decide)] at h; exact (getD_no h0 (hC.step (j := 15) (k := 12) (hC.step (j := 16) (k := 15) (hC.step (j := 18) (k := 16) h (by kernel_rfl)) (by kernel_rfl)) (by kernel_rfl))).elim
      · first | exact flag_ne (by decide) f19 | exact fun _ => rfl
    · refine StepAt.mk (o := { dst := some 30, op := Op.fieldAddr 34 (Operand.tmp 1) 3, type := 0, pos := _, after := #[{ on := 8, ground := Ground.guard }], guard := some (8, true) }) (ws := [8]) rfl (by kernel_rfl) ?_
      rintro L b v hC h0 hA ⟨u2, u3, u17, u18, u19, u20, u21, u22, u23, u24, u25, u26, u27, u28, u29, u30, u31, u32, u33, u34, rfl, hHeld, f0, f1, f2, f3, f4, f5, f6, f7, f8, f17, f18, f19⟩ K hK
      have g8 := f8 (hA 8 (by simp))
      obtain rfl := g8
      rw [if_neg (Bool.eq_false_iff.1 (by kernel_rfl))]
      try simp only [Act.put, List.setIfInBounds_toArray, List.set_cons_zero, List.set_cons_succ]
      refine hK.out _ _ ⟨_, _, _, _, _, _, _, _, _, _, _, _, _, _, _, _, _, _, _, _, rfl, ?_, ?_, ?_, ?_, ?_, ?_, ?_, ?_, ?_, ?_, ?_, ?_, ?_⟩
      · first | exact hHeld | exact hHeld.trans (hb.mono hHeld.size) | (trace_state; fail)
      · first | exact flag_ne (by decide) f0 | exact fun _ => rfl
      · first | exact flag_ne (by decide) f1 | exact fun _ => rfl
      · first | exact flag_ne (by decide) f2 | exact fun _ => rfl
      · intro h; rw [getD_set_ne false (by decide)] at h; have := f3 h; first | exact this | exact owns_below this hb | (trace_state; fail)
      · first | exact flag_ne (by decide) f4 | exact fun _ => rfl
      · first | exact flag_ne (by decide) f5 | exact fun _ => rfl
      · first | exact flag_ne (by decide) f6 | exact fun _ => rfl
      · first | exact flag_ne (by decide) f7 | exact fun _ => rfl
      · first | exact flag_ne (by decide) f8 | exact fun _ => rfl
      · first | exact flag_ne (by decide) f17 | exact fun _ => rfl
      · intro h; rw [getD_set_ne false (by decide)] at h; exact (getD_no h0 (hC.step (j := 14) (k := 13) (hC.step (j := 15) (k := 14) (hC.step (j := 16) (k := 15) (hC.step (j := 18) (k := 16) h (by kernel_rfl)) (by kernel_rfl)) (by kernel_rfl)) (by kernel_rfl))).elim
      · first | exact flag_ne (by decide) f19 | exact fun _ => rfl
    · refine StepAt.mk (o := { dst := some 31, op := Op.load 3 (Operand.tmp 30), type := 3, pos := _, after := #[{ on := 13, ground := Ground.data }, { on := 8, ground := Ground.guard }], guard := some (8, true) }) (ws := [13, 8]) rfl (by kernel_rfl) ?_
      rintro L b v hC h0 hA ⟨u2, u3, u17, u18, u19, u20, u21, u22, u23, u24, u25, u26, u27, u28, u29, u30, u31, u32, u33, u34, rfl, hHeld, f0, f1, f2, f3, f4, f5, f6, f7, f8, f17, f18, f19⟩ K hK
      have g8 := f8 (hA 8 (by simp))
      obtain rfl := g8
      rw [if_neg (Bool.eq_false_iff.1 (by kernel_rfl))]
      try simp only [Act.put, List.setIfInBounds_toArray, List.set_cons_zero, List.set_cons_succ]
      refine hK.out _ _ ⟨_, _, _, _, _, _, _, _, _, _, _, _, _, _, _, _, _, _, _, _, rfl, ?_, ?_, ?_, ?_, ?_, ?_, ?_, ?_, ?_, ?_, ?_, ?_, ?_⟩
      · first | exact hHeld | exact hHeld.trans (hb.mono hHeld.size) | (trace_state; fail)
      · first | exact flag_ne (by decide) f0 | exact fun _ => rfl
      · first | exact flag_ne (by decide) f1 | exact fun _ => rfl
      · first | exact flag_ne (by decide) f2 | exact fun _ => rfl
      · intro h; rw [getD_set_ne false (by decide)] at h; have := f3 h; first | exact this | exact owns_below this hb | (trace_state; fail)
      · first | exact flag_ne (by decide) f4 | exact fun _ => rfl
      · first | exact flag_ne (by decide) f5 | exact fun _ => rfl
      · first | exact flag_ne (by decide) f6 | exact fun _ => rfl
      · first | exact flag_ne (by decide) f7 | exact fun _ => rfl
      · first | exact flag_ne (by decide) f8 | exact fun _ => rfl
      · first | exact flag_ne (by decide) f17 | exact fun _ => rfl
      · intro h; rw [getD_set_ne false (by decide)] at h; exact (getD_no h0 (hC.step (j := 15) (k := 14) (hC.step (j := 16) (k := 15) (hC.step (j := 18) (k := 16) h (by kernel_rfl)) (by kernel_rfl)) (by kernel_rfl))).elim
      · first | exact flag_ne (by decide) f19 | exact fun _ => rfl
    · refine StepAt.mk (o := { dst := some 32, op := Op.buildSlice 75 3 #[(0, Operand.tmp 27), (1, Operand.tmp 29), (2, Operand.tmp 31)], type := 75, pos := _, after := #[{ on := 10, ground := Ground.data }, { on := 12, ground := Ground.data }, { on := 14, ground := Ground.data }, { on := 8, ground := Ground.guard }], guard := some (8, true) }) (ws := [10, 12, 14, 8]) rfl (by kernel_rfl) ?_
      rintro L b v hC h0 hA ⟨u2, u3, u17, u18, u19, u20, u21, u22, u23, u24, u25, u26, u27, u28, u29, u30, u31, u32, u33, u34, rfl, hHeld, f0, f1, f2, f3, f4, f5, f6, f7, f8, f17, f18, f19⟩ K hK
      have g8 := f8 (hA 8 (by simp))
      obtain rfl := g8
      rw [if_neg (Bool.eq_false_iff.1 (by kernel_rfl))]
      try simp only [Act.put, List.setIfInBounds_toArray, List.set_cons_zero, List.set_cons_succ]
      refine hK.out _ _ ⟨_, _, _, _, _, _, _, _, _, _, _, _, _, _, _, _, _, _, _, _, rfl, ?_, ?_, ?_, ?_, ?_, ?_, ?_, ?_, ?_, ?_, ?_, ?_, ?_⟩
      · first | exact hHeld | exact hHeld.trans (hb.mono hHeld.size) | (trace_state; fail)
      · first | exact flag_ne (by decide) f0 | exact fun _ => rfl
      · first | exact flag_ne (by decide) f1 | exact fun _ => rfl
      · first | exact flag_ne (by decide) f2 | exact fun _ => rfl
      · intro h; rw [getD_set_ne false (by decide)] at h; have := f3 h; first | exact this | exact owns_below this hb | (trace_state; fail)
      · first | exact flag_ne (by decide) f4 | exact fun _ => rfl
      · first | exact flag_ne (by decide) f5 | exact fun _ => rfl
      · first | exact flag_ne (by decide) f6 | exact fun _ => rfl
      · first | exact flag_ne (by decide) f7 | exact fun _ => rfl
      · first | exact flag_ne (by decide) f8 | exact fun _ => rfl
      · first | exact flag_ne (by decide) f17 | exact fun _ => rfl
      · intro h; rw [getD_set_ne false (by decide)] at h; exact (getD_no h0 (hC.step (j := 16) (k := 15) (hC.step (j := 18) (k := 16) h (by kernel_rfl)) (by kernel_rfl))).elim
      · first | exact flag_ne (by decide) f19 | exact fun _ => rfl
    · refine StepAt.mk (o := { dst := some 33, op := Op.call { callee := Callee.value (Operand.func 26), args := #[Operand.tmp 32], argTypes := #[75] }, type := 4, pos := _, after := #[{ on := 15, ground := Ground.data }, { on := 8, ground := Ground.chain }, { on := 8, ground := Ground.guard }], guard := some (8, true) }) (ws := [15, 8, 8]) rfl (by kernel_rfl) ?_
      rintro L b v hC h0 hA ⟨u2, u3, u17, u18, u19, u20, u21, u22, u23, u24, u25, u26, u27, u28, u29, u30, u31, u32, u33, u34, rfl, hHeld, f0, f1, f2, f3, f4, f5, f6, f7, f8, f17, f18, f19⟩ K hK
      have g8 := f8 (hA 8 (by simp))
      obtain rfl := g8
      rw [if_neg (Bool.eq_false_iff.1 (by kernel_rfl))]
      try simp only [Act.put, List.setIfInBounds_toArray, List.set_cons_zero, List.set_cons_succ]
      refine hK.out _ _ ⟨_, _, _, _, _, _, _, _, _, _, _, _, _, _, _, _, _, _, _, _, rfl, ?_, ?_, ?_, ?_, ?_, ?_, ?_, ?_, ?_, ?_, ?_, ?_, ?_⟩
      · first | exact hHeld | exact hHeld.trans (hb.mono hHeld.size) | (trace_state; fail)
      · first | exact flag_ne (by decide) f0 | exact fun _ => rfl
      · first | exact flag_ne (by decide) f1 | exact fun _ => rfl
      · first | exact flag_ne (by decide) f2 | exact fun _ => rfl
      · intro h; rw [getD_set_ne false (by decide)] at h; have := f3 h; first | exact this | exact owns_below this hb | (trace_state; fail)
      · first | exact flag_ne (by decide) f4 | exact fun _ => rfl
      · first | exact flag_ne (by decide) f5 | exact fun _ => rfl
      · first | exact flag_ne (by decide) f6 | exact fun _ => rfl
      · first | exact flag_ne (by decide) f7 | exact fun _ => rfl
      · first | exact flag_ne (by decide) f8 | exact fun _ => rfl
      · first | exact flag_ne (by decide) f17 | exact fun _ => rfl
      · intro h; rw [getD_set_ne false (by decide)] at h; exact (getD_no h0 (hC.step (j := 18) (k := 16) h (by kernel_rfl))).elim
      · first | exact flag_ne (by decide) f19 | exact fun _ => rfl
    · refine StepAt.mk (o := { dst := some 34, op := Op.pick (Operand.tmp 25) (Operand.tmp 33) (Operand.const (Value.bool false)), type := 4, pos := _, after := #[{ on := 8, ground := Ground.data }, { on := 16, ground := Ground.data }, { on := 18, ground := Ground.gcOnly Departure.lateStores }], guard := none }) (ws := [8, 16]) rfl (by kernel_rfl) ?_
      rintro L b v hC h0 hA ⟨u2, u3, u17, u18, u19, u20, u21, u22, u23, u24, u25, u26, u27, u28, u29, u30, u31, u32, u33, u34, rfl, hHeld, f0, f1, f2, f3, f4, f5, f6, f7, f8, f17, f18, f19⟩ K hK
      have g8 := f8 (hA 8 (by simp))
      obtain rfl := g8
      rw [if_pos (by kernel_rfl)]
      have q0 := cellB hHeld C0 hg
      have q1 := cellB hHeld C1 hg
      have q2 := cellB hHeld C2 hg
      have q3 := cellB hHeld C3 hg
      have q4 := cellB hHeld C4 hg
      go_simp
      try simp only [Act.put, List.setIfInBounds_toArray, List.set_cons_zero, List.set_cons_succ]
      refine hK.out _ _ ⟨_, _, _, _, _, _, _, _, _, _, _, _, _, _, _, _, _, _, _, _, rfl, ?_, ?_, ?_, ?_, ?_, ?_, ?_, ?_, ?_, ?_, ?_, ?_, ?_⟩
      · first | exact hHeld | exact hHeld.trans (hb.mono hHeld.size) | (trace_state; fail)
      · first | exact flag_ne (by decide) f0 | exact fun _ => rfl
      · first | exact flag_ne (by decide) f1 | exact fun _ => rfl
      · first | exact flag_ne (by decide) f2 | exact fun _ => rfl
      · intro h; rw [getD_set_ne false (by decide)] at h; have := f3 h; first | exact this | exact owns_below this hb | (trace_state; fail)
      · first | exact flag_ne (by decide) f4 | exact fun _ => rfl
      · first | exact flag_ne (by decide) f5 | exact fun _ => rfl
      · first | exact flag_ne (by decide) f6 | exact fun _ => rfl
      · first | exact flag_ne (by decide) f7 | exact fun _ => rfl
      · first | exact flag_ne (by decide) f8 | exact fun _ => rfl
      · intro _; first | rfl | (trace_state; fail)
      · intro h; rw [getD_set_ne false (by decide)] at h; have := f18 h; first | exact this | exact owns_below this hb | (trace_state; fail)
      · first | exact flag_ne (by decide) f19 | exact fun _ => rfl
    · refine StepAt.mk (o := { dst := some 2, op := Op.assign (Operand.tmp 20), type := 23, pos := _, after := #[{ on := 3, ground := Ground.data }, { on := 16, ground := Ground.chain }, { on := 0, ground := Ground.phase }, { on := 1, ground := Ground.phase }, { on := 2, ground := Ground.phase }, { on := 3, ground := Ground.phase }, { on := 4, ground := Ground.textOnly Departure.lateStores }, { on := 5, ground := Ground.textOnly Departure.lateStores }, { on := 6, ground := Ground.textOnly Departure.lateStoresUnsure }, { on := 7, ground := Ground.textOnly Departure.lateStores }, { on := 8, ground := Ground.textOnly Departure.lateStores }, { on := 9, ground := Ground.textOnly Departure.lateStores }, { on := 10, ground := Ground.textOnly Departure.lateStores }, { on := 11, ground := Ground.textOnly Departure.lateStores }, { on := 12, ground := Ground.textOnly Departure.lateStores }, { on := 13, ground := Ground.textOnly Departure.lateStores }, { on := 14, ground := Ground.textOnly Departure.lateStores }, { on := 15, ground := Ground.textOnly Departure.lateStores }, { on := 16, ground := Ground.textOnly Departure.lateStoresUnsure }, { on := 17, ground := Ground.textOnly Departure.lateStores }], guard := none }) (ws := [3, 16, 0, 1, 2, 3]) rfl (by kernel_rfl) ?_
      rintro L b v hC h0 hA ⟨u2, u3, u17, u18, u19, u20, u21, u22, u23, u24, u25, u26, u27, u28, u29, u30, u31, u32, u33, u34, rfl, hHeld, f0, f1, f2, f3, f4, f5, f6, f7, f8, f17, f18, f19⟩ K hK
      have g3 := f3 (hA 3 (by simp))
      have g0 := f0 (hA 0 (by simp))
      obtain rfl := g0
      have g1 := f1 (hA 1 (by simp))
      obtain rfl := g1
      have g2 := f2 (hA 2 (by simp))
      obtain rfl := g2
      rw [if_pos (by kernel_rfl)]
      have q0 := cellB hHeld C0 hg
      have q1 := cellB hHeld C1 hg
      have q2 := cellB hHeld C2 hg
      have q3 := cellB hHeld C3 hg
      have q4 := cellB hHeld C4 hg
      go_simp
      try simp only [Act.put, List.setIfInBounds_toArray, List.set_cons_zero, List.set_cons_succ]
      refine hK.out _ _ ⟨_, _, _, _, _, _, _, _, _, _, _, _, _, _, _, _, _, _, _, _, rfl, ?_, ?_, ?_, ?_, ?_, ?_, ?_, ?_, ?_, ?_, ?_, ?_, ?_⟩
      · first | exact hHeld | exact hHeld.trans (hb.mono hHeld.size) | (trace_state; fail)
      · first | exact flag_ne (by decide) f0 | exact fun _ => rfl
      · first | exact flag_ne (by decide) f1 | exact fun _ => rfl
      · first | exact flag_ne (by decide) f2 | exact fun _ => rfl
      · intro h; rw [getD_set_ne false (by decide)] at h; have := f3 h; first | exact this | exact owns_below this hb | (trace_state; fail)
      · first | exact flag_ne (by decide) f4 | exact fun _ => rfl
      · first | exact flag_ne (by decide) f5 | exact fun _ => rfl
      · first | exact flag_ne (by decide) f6 | exact fun _ => rfl
      · first | exact flag_ne (by decide) f7 | exact fun _ => rfl
      · first | exact flag_ne (by decide) f8 | exact fun _ => rfl
      · first | exact flag_ne (by decide) f17 | exact fun _ => rfl
      · intro _; first | exact g3 | (trace_state; fail)
      · first | exact flag_ne (by decide) f19 | exact fun _ => rfl
    · refine StepAt.mk (o := { dst := some 3, op := Op.assign (Operand.tmp 34), type := 4, pos := _, after := #[{ on := 17, ground := Ground.data }, { on := 18, ground := Ground.chain }, { on := 0, ground := Ground.phase }, { on := 1, ground := Ground.phase }, { on := 2, ground := Ground.phase }, { on := 3, ground := Ground.phase }, { on := 4, ground := Ground.phase }, { on := 5, ground := Ground.phase }, { on := 6, ground := Ground.phase }, { on := 7, ground := Ground.phase }, { on := 8, ground := Ground.phase }, { on := 9, ground := Ground.phase }, { on := 10, ground := Ground.phase }, { on := 11, ground := Ground.phase }, { on := 12, ground := Ground.phase }, { on := 13, ground := Ground.phase }, { on := 14, ground := Ground.phase }, { on := 15, ground := Ground.phase }, { on := 16, ground := Ground.phase }, { on := 17, ground := Ground.phase }, { on := 18, ground := Ground.phase }], guard := none }) (ws := [17, 18, 0, 1, 2, 3, 4, 5, 6, 7, 8, 9, 10, 11, 12, 13, 14, 15, 16, 17, 18]) rfl (by kernel_rfl) ?_
      rintro L b v hC h0 hA ⟨u2, u3, u17, u18, u19, u20, u21, u22, u23, u24, u25, u26, u27, u28, u29, u30, u31, u32, u33, u34, rfl, hHeld, f0, f1, f2, f3, f4, f5, f6, f7, f8, f17, f18, f19⟩ K hK
      have g17 := f17 (hA 17 (by simp))
      obtain rfl := g17
      have g18 := f18 (hA 18 (by simp))
      have g0 := f0 (hA 0 (by simp))
      obtain rfl := g0
      have g1 := f1 (hA 1 (by simp))
      obtain rfl := g1
      have g2 := f2 (hA 2 (by simp))
      obtain rfl := g2
      have g3 := f3 (hA 3 (by simp))
      have g4 := f4 (hA 4 (by simp))
      obtain rfl := g4
      have g5 := f5 (hA 5 (by simp))
      obtain rfl := g5
      have g6 := f6 (hA 6 (by simp))
      obtain rfl := g6
      have g7 := f7 (hA 7 (by simp))
      obtain rfl := g7
      have g8 := f8 (hA 8 (by simp))
      obtain rfl := g8
      rw [if_pos (by kernel_rfl)]
      have q0 := cellB hHeld C0 hg
      have q1 := cellB hHeld C1 hg
      have q2 := cellB hHeld C2 hg
      have q3 := cellB hHeld C3 hg
      have q4 := cellB hHeld C4 hg
      go_simp
      try simp only [Act.put, List.setIfInBounds_toArray, List.set_cons_zero, List.set_cons_succ]
      refine hK.out _ _ ⟨_, _, _, _, _, _, _, _, _, _, _, _, _, _, _, _, _, _, _, _, rfl, ?_, ?_, ?_, ?_, ?_, ?_, ?_, ?_, ?_, ?_, ?_, ?_, ?_⟩
      · first | exact hHeld | exact hHeld.trans (hb.mono hHeld.size) | (trace_state; fail)
      · first | exact flag_ne (by decide) f0 | exact fun _ => rfl
      · first | exact flag_ne (by decide) f1 | exact fun _ => rfl
      · first | exact flag_ne (by decide) f2 | exact fun _ => rfl
      · intro h; rw [getD_set_ne false (by decide)] at h; have := f3 h; first | exact this | exact owns_below this hb | (trace_state; fail)
      · first | exact flag_ne (by decide) f4 | exact fun _ => rfl
      · first | exact flag_ne (by decide) f5 | exact fun _ => rfl
      · first | exact flag_ne (by decide) f6 | exact fun _ => rfl
      · first | exact flag_ne (by decide) f7 | exact fun _ => rfl
      · first | exact flag_ne (by decide) f8 | exact fun _ => rfl
      · first | exact flag_ne (by decide) f17 | exact fun _ => rfl
      · intro h; rw [getD_set_ne false (by decide)] at h; have := f18 h; first | exact this | exact owns_below this hb | (trace_state; fail)
      · intro _; first | rfl | (trace_state; fail)
  rintro L b v hA ⟨u2, u3, u17, u18, u19, u20, u21, u22, u23, u24, u25, u26, u27, u28, u29, u30, u31, u32, u33, u34, rfl, hHeld, f0, f1, f2, f3, f4, f5, f6, f7, f8, f17, f18, f19⟩
  have g0 := f0 (hA 0 (by omega))
  clear f0
  obtain rfl := g0
  have g1 := f1 (hA 1 (by omega))
  clear f1
  obtain rfl := g1
  have g2 := f2 (hA 2 (by omega))
  clear f2
  obtain rfl := g2
  have g3 := f3 (hA 3 (by omega))
  clear f3
  have g4 := f4 (hA 4 (by omega))
  clear f4
  obtain rfl := g4
  have g5 := f5 (hA 5 (by omega))
  clear f5
  obtain rfl := g5
  have g6 := f6 (hA 6 (by omega))
  clear f6
  obtain rfl := g6
  have g7 := f7 (hA 7 (by omega))
  clear f7
  obtain rfl := g7
  have g8 := f8 (hA 8 (by omega))
  clear f8
  obtain rfl := g8
  have g17 := f17 (hA 17 (by omega))
  clear f17
  obtain rfl := g17
  have g18 := f18 (hA 18 (by omega))
  clear f18
  have g19 := f19 (hA 19 (by omega))
  clear f19
  obtain rfl := g19
  clear hA
  exact ⟨rfl, _, _, _, _, _, _, _, _, _, _, _, _, _, _, _, _, _, _, _, _, rfl, hHeld, g18, rfl⟩
end Go.Proofs.Ytdpcfcflcfjmjaa
