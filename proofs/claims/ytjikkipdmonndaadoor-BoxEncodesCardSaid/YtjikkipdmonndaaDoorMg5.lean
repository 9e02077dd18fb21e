/- Merged texts: TabPutX, TabPutY, TabE, CrcPure, Crc, CrcMore, CrcOf, Few, FewP, BoxPure. -/
import Derived.Test.YtjikkipdmonndaaDoorMg4
import Derived.Test.YtjikkipdmonndaaDoorMg3
import Derived.Test.YtjikkipdmonndaaDoorProg
import Derived.Test.YtjikkipdmonndaaDoorChecked
import Derived.Handy
import Derived.Lib.Hide
import Derived.Laws.BitsAllLaws
import Derived.Test.YtjikkipdmonndaaDoorMg0
import Derived.WalkSpells
import Derived.Lib.SlBytesConst
import Derived.Deep.QuietTactic
import Derived.BigQuiet
import Derived.Deep.RegionHeld3
import Derived.LoopTactic
import Derived.OwnWalk
import Derived.WalkKit
import Derived.WalkLawsBesides
import Derived.WalkSmall
import Derived.IntWalk
import Derived.Test.YtjikkipdmonndaaDoorMg1
/- Layer 14: a variable's row as bytes: the second region, a name that is too long. -/
namespace Go.Proofs.YtjikkipdmonndaaDoor
open Go.RowKit
set_option linter.unusedSimpArgs false
set_option linter.unusedVariables false
set_option maxRecDepth 100000 in
set_option maxHeartbeats 4000000 in
theorem putVar_r2n (W0 : World) (g : Nat) (x : Vr) (i : TypeInfo) (hi : Tryd.prog.info? 5 = some i) (hz : i.zero = some (.int .u8 0)) (hsize : i.size = 1) (hby : i.bytes = 1) (w1 : I64 x.t) (w2 : I64 x.n) (w3 : I64 x.area) (C0 : W0.cell? ⟨g, 0, none⟩ = some (.string ⟨x.name.toArray⟩)) (C1 : W0.cell? ⟨g, 1, none⟩ = some (.int .i64 x.t)) (C2 : W0.cell? ⟨g, 2, none⟩ = some (.int .i64 x.n)) (C3 : W0.cell? ⟨g, 3, none⟩ = some (.int .i64 x.area)) (C4 : W0.cell? ⟨g, 4, none⟩ = some (.int .i64 x.init)) (hg : g < W0.heap.size) (r4 : Value) (l : List UInt8) (hl : l.length ≤ 2000) (B0 : Nat) (HO4 : W0.ownsRow B0 5 1 r4 l.length (bytesV l)) (hq : ((x.name.length : Int) ≤ 255) = False) (t0 t2 t3 t5 t6 t7 t8 t9 t10 t11 t12 t13 t14 t15 t16 t17 t18 t19 t20 t21 t22 t23 t24 t25 t26 t27 t28 t29 t30 t31 t32 t33 t34 : Value) :
    (Code.region 2 #[{ dst := some 17, op := Op.move (Operand.tmp 4), type := 30, pos := "tab.go:92", after := #[], guard := none }, { dst := some 18, op := Op.fieldAddr 41 (Operand.tmp 1) 4, type := 0, pos := "tab.go:92", after := #[], guard := none }, { dst := some 19, op := Op.load 3 (Operand.tmp 18), type := 3, pos := "tab.go:92", after := #[{ on := 1, ground := Ground.data }], guard := none }, { dst := some 20, op := Op.call { callee := Callee.value (Operand.func 22), args := #[Operand.tmp 17, Operand.const (Value.int IntKind.i64 8), Operand.tmp 19], argTypes := #[30, 3, 3] }, type := 30, pos := "tab.go:92", after := #[{ on := 0, ground := Ground.data }, { on := 2, ground := Ground.data }], guard := none }, { dst := some 21, op := Op.fieldAddr 41 (Operand.tmp 1) 0, type := 0, pos := "tab.go:92", after := #[], guard := none }, { dst := some 22, op := Op.load 9 (Operand.tmp 21), type := 9, pos := "tab.go:92", after := #[{ on := 4, ground := Ground.data }], guard := none }, { dst := some 23, op := Op.call { callee := Callee.builtin Builtin.len, args := #[Operand.tmp 22], argTypes := #[9] }, type := 3, pos := "tab.go:92", after := #[{ on := 5, ground := Ground.data }], guard := none }, { dst := some 24, op := Op.binOp BinOp.leq 3 (Operand.tmp 23) (Operand.const (Value.int IntKind.i64 255)) 3, type := 4, pos := "tab.go:92", after := #[{ on := 6, ground := Ground.data }], guard := none }, { dst := some 25, op := Op.move (Operand.tmp 24), type := 4, pos := "tab.go:92", after := #[{ on := 7, ground := Ground.data }, { on := 3, ground := Ground.chain }], guard := none }, { dst := some 26, op := Op.fieldAddr 41 (Operand.tmp 1) 1, type := 0, pos := "tab.go:92", after := #[{ on := 8, ground := Ground.guard }], guard := some (8, true) }, { dst := some 27, op := Op.load 3 (Operand.tmp 26), type := 3, pos := "tab.go:92", after := #[{ on := 9, ground := Ground.data }, { on := 8, ground := Ground.guard }], guard := some (8, true) }, { dst := some 28, op := Op.fieldAddr 41 (Operand.tmp 1) 2, type := 0, pos := "tab.go:92", after := #[{ on := 8, ground := Ground.guard }], guard := some (8, true) }, { dst := some 29, op := Op.load 3 (Operand.tmp 28), type := 3, pos := "tab.go:92", after := #[{ on := 11, ground := Ground.data }, { on := 8, ground := Ground.guard }], guard := some (8, true) }, { dst := some 30, op := Op.fieldAddr 41 (Operand.tmp 1) 3, type := 0, pos := "tab.go:92", after := #[{ on := 8, ground := Ground.guard }], guard := some (8, true) }, { dst := some 31, op := Op.load 3 (Operand.tmp 30), type := 3, pos := "tab.go:92", after := #[{ on := 13, ground := Ground.data }, { on := 8, ground := Ground.guard }], guard := some (8, true) }, { dst := some 32, op := Op.buildSlice 45 3 #[(0, Operand.tmp 27), (1, Operand.tmp 29), (2, Operand.tmp 31)], type := 45, pos := "tab.go:92", after := #[{ on := 10, ground := Ground.data }, { on := 12, ground := Ground.data }, { on := 14, ground := Ground.data }, { on := 8, ground := Ground.guard }], guard := some (8, true) }, { dst := some 33, op := Op.call { callee := Callee.value (Operand.func 48), args := #[Operand.tmp 32], argTypes := #[45] }, type := 4, pos := "tab.go:92", after := #[{ on := 15, ground := Ground.data }, { on := 8, ground := Ground.chain }, { on := 8, ground := Ground.guard }], guard := some (8, true) }, { dst := some 34, op := Op.pick (Operand.tmp 25) (Operand.tmp 33) (Operand.const (Value.bool false)), type := 4, pos := "tab.go:92", after := #[{ on := 8, ground := Ground.data }, { on := 16, ground := Ground.data }, { on := 18, ground := Ground.gcOnly Departure.lateStores }], guard := none }, { dst := some 2, op := Op.assign (Operand.tmp 20), type := 30, pos := "tab.go:92", after := #[{ on := 3, ground := Ground.data }, { on := 16, ground := Ground.chain }, { on := 0, ground := Ground.phase }, { on := 1, ground := Ground.phase }, { on := 2, ground := Ground.phase }, { on := 3, ground := Ground.phase }, { on := 4, ground := Ground.textOnly Departure.lateStores }, { on := 5, ground := Ground.textOnly Departure.lateStores }, { on := 6, ground := Ground.textOnly Departure.lateStoresUnsure }, { on := 7, ground := Ground.textOnly Departure.lateStores }, { on := 8, ground := Ground.textOnly Departure.lateStores }, { on := 9, ground := Ground.textOnly Departure.lateStores }, { on := 10, ground := Ground.textOnly Departure.lateStores }, { on := 11, ground := Ground.textOnly Departure.lateStores }, { on := 12, ground := Ground.textOnly Departure.lateStores }, { on := 13, ground := Ground.textOnly Departure.lateStores }, { on := 14, ground := Ground.textOnly Departure.lateStores }, { on := 15, ground := Ground.textOnly Departure.lateStores }, { on := 16, ground := Ground.textOnly Departure.lateStoresUnsure }, { on := 17, ground := Ground.textOnly Departure.lateStores }], guard := none }, { dst := some 3, op := Op.assign (Operand.tmp 34), type := 4, pos := "tab.go:92", after := #[{ on := 17, ground := Ground.data }, { on := 18, ground := Ground.chain }, { on := 0, ground := Ground.phase }, { on := 1, ground := Ground.phase }, { on := 2, ground := Ground.phase }, { on := 3, ground := Ground.phase }, { on := 4, ground := Ground.phase }, { on := 5, ground := Ground.phase }, { on := 6, ground := Ground.phase }, { on := 7, ground := Ground.phase }, { on := 8, ground := Ground.phase }, { on := 9, ground := Ground.phase }, { on := 10, ground := Ground.phase }, { on := 11, ground := Ground.phase }, { on := 12, ground := Ground.phase }, { on := 13, ground := Ground.phase }, { on := 14, ground := Ground.phase }, { on := 15, ground := Ground.phase }, { on := 16, ground := Ground.phase }, { on := 17, ground := Ground.phase }, { on := 18, ground := Ground.phase }], guard := none }] true).wp Tryd.prog (fun e b v => e = Exit.normal ∧ ∃ u2 u3 u17 u18 u19 u20 u21 u22 u23 u24 u25 u26 u27 u28 u29 u30 u31 u32 u33 u34 : Value, b = ⟨#[t0, .pointer (some ⟨g, 0, none⟩), u2, u3, r4, t5, t6, t7, t8, t9, t10, t11, t12, t13, t14, t15, t16, u17, u18, u19, u20, u21, u22, u23, u24, u25, u26, u27, u28, u29, u30, u31, u32, u33, u34], []⟩ ∧ Below W0.heap.size W0 v ∧ (v.ownsRow W0.heap.size 5 1 u2 (l.length + 8) (bytesV (l ++ putL 8 x.init))) ∧ (u3 = .bool false)) ⟨#[t0, .pointer (some ⟨g, 0, none⟩), t2, t3, r4, t5, t6, t7, t8, t9, t10, t11, t12, t13, t14, t15, t16, t17, t18, t19, t20, t21, t22, t23, t24, t25, t26, t27, t28, t29, t30, t31, t32, t33, t34], []⟩ W0 := by
  refine wp_region_facts (n := 20) (fun L b v => ∃ u2 u3 u17 u18 u19 u20 u21 u22 u23 u24 u25 u26 u27 u28 u29 u30 u31 u32 u33 u34 : Value, b = ⟨#[t0, .pointer (some ⟨g, 0, none⟩), u2, u3, r4, t5, t6, t7, t8, t9, t10, t11, t12, t13, t14, t15, t16, u17, u18, u19, u20, u21, u22, u23, u24, u25, u26, u27, u28, u29, u30, u31, u32, u33, u34], []⟩ ∧ Below W0.heap.size W0 v ∧ (L.getD 0 false = true → u17 = r4) ∧ (L.getD 1 false = true → u18 = .pointer (some ⟨g, 4, none⟩)) ∧ (L.getD 2 false = true → u19 = .int .i64 x.init) ∧ (L.getD 3 false = true → v.ownsRow W0.heap.size 5 1 u20 (l.length + 8) (bytesV (l ++ putL 8 x.init))) ∧ (L.getD 4 false = true → u21 = .pointer (some ⟨g, 0, none⟩)) ∧ (L.getD 5 false = true → u22 = .string ⟨x.name.toArray⟩) ∧ (L.getD 6 false = true → u23 = .int .i64 x.name.length) ∧ (L.getD 7 false = true → u24 = .bool false) ∧ (L.getD 8 false = true → u25 = .bool false) ∧ (L.getD 17 false = true → u34 = .bool false) ∧ (L.getD 18 false = true → v.ownsRow W0.heap.size 5 1 u2 (l.length + 8) (bytesV (l ++ putL 8 x.init))) ∧ (L.getD 19 false = true → u3 = .bool false)) (by kernel_rfl) (by kernel_rfl) (by kernel_rfl) ?_ ?_ ?_
  · refine ⟨_, _, _, _, _, _, _, _, _, _, _, _, _, _, _, _, _, _, _, _, rfl, (Below.refl _ _).drew, flag_new, flag_new, flag_new, flag_new, flag_new, flag_new, flag_new, flag_new, flag_new, flag_new, flag_new, flag_new⟩
  · refine AllSteps.succ (AllSteps.succ (AllSteps.succ (AllSteps.succ (AllSteps.succ (AllSteps.succ (AllSteps.succ (AllSteps.succ (AllSteps.succ (AllSteps.succ (AllSteps.succ (AllSteps.succ (AllSteps.succ (AllSteps.succ (AllSteps.succ (AllSteps.succ (AllSteps.succ (AllSteps.succ (AllSteps.succ (AllSteps.succ AllSteps.zero ?_) ?_) ?_) ?_) ?_) ?_) ?_) ?_) ?_) ?_) ?_) ?_) ?_) ?_) ?_) ?_) ?_) ?_) ?_) ?_
    · refine StepAt.mk (o := { dst := some 17, op := Op.move (Operand.tmp 4), type := 30, pos := _, after := #[], guard := none }) (ws := []) rfl (by kernel_rfl) ?_
      intro L b v hC h0 hA h
      refine h.elim ?_; clear h; intro u2 h
      refine h.elim ?_; clear h; intro u3 h
      refine h.elim ?_; clear h; intro u17 h
      refine h.elim ?_; clear h; intro u18 h
      refine h.elim ?_; clear h; intro u19 h
      refine h.elim ?_; clear h; intro u20 h
      refine h.elim ?_; clear h; intro u21 h
      refine h.elim ?_; clear h; intro u22 h
      refine h.elim ?_; clear h; intro u23 h
      refine h.elim ?_; clear h; intro u24 h
      refine h.elim ?_; clear h; intro u25 h
      refine h.elim ?_; clear h; intro u26 h
      refine h.elim ?_; clear h; intro u27 h
      refine h.elim ?_; clear h; intro u28 h
      refine h.elim ?_; clear h; intro u29 h
      refine h.elim ?_; clear h; intro u30 h
      refine h.elim ?_; clear h; intro u31 h
      refine h.elim ?_; clear h; intro u32 h
      refine h.elim ?_; clear h; intro u33 h
      refine h.elim ?_; clear h; intro u34 h
      have hbb := h.1; replace h := h.2; subst hbb
      have hHeld := h.1; replace h := h.2
      have f0 := h.1; replace h := h.2
      have f1 := h.1; replace h := h.2
      have f2 := h.1; replace h := h.2
      have f3 := h.1; replace h := h.2
      have f4 := h.1; replace h := h.2
      have f5 := h.1; replace h := h.2
      have f6 := h.1; replace h := h.2
      have f7 := h.1; replace h := h.2
      have f8 := h.1; replace h := h.2
      have f17 := h.1; replace h := h.2
      have f18 := h.1; replace h := h.2
      have f19 := h; clear h
      intro K hK
      rw [if_pos (by kernel_rfl)]
      have q0 := cellB hHeld C0 hg
      have q1 := cellB hHeld C1 hg
      have q2 := cellB hHeld C2 hg
      have q3 := cellB hHeld C3 hg
      have q4 := cellB hHeld C4 hg
      go_simp
      try simp only [Act.put, List.setIfInBounds_toArray, List.set_cons_zero, List.set_cons_succ]
      refine hK.out _ _ ⟨_, _, _, _, _, _, _, _, _, _, _, _, _, _, _, _, _, _, _, _, rfl, ?_, ?_, ?_, ?_, ?_, ?_, ?_, ?_, ?_, ?_, ?_, ?_, ?_⟩
      · first | exact hHeld | exact hHeld.trans (hb.mono hHeld.size) | (trace_state; fail)
      · intro _; first | rfl | (trace_state; fail)
      · first | exact flag_ne (by decide) f1 | exact fun _ => rfl
      · first | exact flag_ne (by decide) f2 | exact fun _ => rfl
      · intro h; rw [getD_set_ne false (by decide)] at h; exact (getD_no h0 (hC.step (j := 3) (k := 0) h (by kernel_rfl))).elim
      · first | exact flag_ne (by decide) f4 | exact fun _ => rfl
      · first | exact flag_ne (by decide) f5 | exact fun _ => rfl
      · first | exact flag_ne (by decide) f6 | exact fun _ => rfl
      · first | exact flag_ne (by decide) f7 | exact fun _ => rfl
      · first | exact flag_ne (by decide) f8 | exact fun _ => rfl
      · first | exact flag_ne (by decide) f17 | exact fun _ => rfl
      · intro h; rw [getD_set_ne false (by decide)] at h; exact (getD_no h0 (hC.step (j := 18) (k := 0) h (by kernel_rfl))).elim
      · first | exact flag_ne (by decide) f19 | exact fun _ => rfl
    · refine StepAt.mk (o := { dst := some 18, op := Op.fieldAddr 41 (Operand.tmp 1) 4, type := 0, pos := _, after := #[], guard := none }) (ws := []) rfl (by kernel_rfl) ?_
      intro L b v hC h0 hA h
      refine h.elim ?_; clear h; intro u2 h
      refine h.elim ?_; clear h; intro u3 h
      refine h.elim ?_; clear h; intro u17 h
      refine h.elim ?_; clear h; intro u18 h
      refine h.elim ?_; clear h; intro u19 h
      refine h.elim ?_; clear h; intro u20 h
      refine h.elim ?_; clear h; intro u21 h
      refine h.elim ?_; clear h; intro u22 h
      refine h.elim ?_; clear h; intro u23 h
      refine h.elim ?_; clear h; intro u24 h
      refine h.elim ?_; clear h; intro u25 h
      refine h.elim ?_; clear h; intro u26 h
      refine h.elim ?_; clear h; intro u27 h
      refine h.elim ?_; clear h; intro u28 h
      refine h.elim ?_; clear h; intro u29 h
      refine h.elim ?_; clear h; intro u30 h
      refine h.elim ?_; clear h; intro u31 h
      refine h.elim ?_; clear h; intro u32 h
      refine h.elim ?_; clear h; intro u33 h
      refine h.elim ?_; clear h; intro u34 h
      have hbb := h.1; replace h := h.2; subst hbb
      have hHeld := h.1; replace h := h.2
      have f0 := h.1; replace h := h.2
      have f1 := h.1; replace h := h.2
      have f2 := h.1; replace h := h.2
      have f3 := h.1; replace h := h.2
      have f4 := h.1; replace h := h.2
      have f5 := h.1; replace h := h.2
      have f6 := h.1; replace h := h.2
      have f7 := h.1; replace h := h.2
      have f8 := h.1; replace h := h.2
      have f17 := h.1; replace h := h.2
      have f18 := h.1; replace h := h.2
      have f19 := h; clear h
      intro K hK
      rw [if_pos (by kernel_rfl)]
      have q0 := cellB hHeld C0 hg
      have q1 := cellB hHeld C1 hg
      have q2 := cellB hHeld C2 hg
      have q3 := cellB hHeld C3 hg
      have q4 := cellB hHeld C4 hg
      go_simp
      try simp only [Act.put, List.setIfInBounds_toArray, List.set_cons_zero, List.set_cons_succ]
      refine hK.out _ _ ⟨_, _, _, _, _, _, _, _, _, _, _, _, _, _, _, _, _, _, _, _, rfl, ?_, ?_, ?_, ?_, ?_, ?_, ?_, ?_, ?_, ?_, ?_, ?_, ?_⟩
      · first | exact hHeld | exact hHeld.trans (hb.mono hHeld.size) | (trace_state; fail)
      · first | exact flag_ne (by decide) f0 | exact fun _ => rfl
      · intro _; first | rfl | (trace_state; fail)
      · first | exact flag_ne (by decide) f2 | exact fun _ => rfl
      · intro h; rw [getD_set_ne false (by decide)] at h; exact (getD_no h0 (hC.step (j := 2) (k := 1) (hC.step (j := 3) (k := 2) h (by kernel_rfl)) (by kernel_rfl))).elim
      · first | exact flag_ne (by decide) f4 | exact fun _ => rfl
      · first | exact flag_ne (by decide) f5 | exact fun _ => rfl
      · first | exact flag_ne (by decide) f6 | exact fun _ => rfl
      · first | exact flag_ne (by decide) f7 | exact fun _ => rfl
      · first | exact flag_ne (by decide) f8 | exact fun _ => rfl
      · first | exact flag_ne (by decide) f17 | exact fun _ => rfl
      · intro h; rw [getD_set_ne false (by decide)] at h; exact (getD_no h0 (hC.step (j := 18) (k := 1) h (by kernel_rfl))).elim
      · first | exact flag_ne (by decide) f19 | exact fun _ => rfl
    · refine StepAt.mk (o := { dst := some 19, op := Op.load 3 (Operand.tmp 18), type := 3, pos := _, after := #[{ on := 1, ground := Ground.data }], guard := none }) (ws := [1]) rfl (by kernel_rfl) ?_
      intro L b v hC h0 hA h
      refine h.elim ?_; clear h; intro u2 h
      refine h.elim ?_; clear h; intro u3 h
      refine h.elim ?_; clear h; intro u17 h
      refine h.elim ?_; clear h; intro u18 h
      refine h.elim ?_; clear h; intro u19 h
      refine h.elim ?_; clear h; intro u20 h
      refine h.elim ?_; clear h; intro u21 h
      refine h.elim ?_; clear h; intro u22 h
      refine h.elim ?_; clear h; intro u23 h
      refine h.elim ?_; clear h; intro u24 h
      refine h.elim ?_; clear h; intro u25 h
      refine h.elim ?_; clear h; intro u26 h
      refine h.elim ?_; clear h; intro u27 h
      refine h.elim ?_; clear h; intro u28 h
      refine h.elim ?_; clear h; intro u29 h
      refine h.elim ?_; clear h; intro u30 h
      refine h.elim ?_; clear h; intro u31 h
      refine h.elim ?_; clear h; intro u32 h
      refine h.elim ?_; clear h; intro u33 h
      refine h.elim ?_; clear h; intro u34 h
      have hbb := h.1; replace h := h.2; subst hbb
      have hHeld := h.1; replace h := h.2
      have f0 := h.1; replace h := h.2
      have f1 := h.1; replace h := h.2
      have f2 := h.1; replace h := h.2
      have f3 := h.1; replace h := h.2
      have f4 := h.1; replace h := h.2
      have f5 := h.1; replace h := h.2
      have f6 := h.1; replace h := h.2
      have f7 := h.1; replace h := h.2
      have f8 := h.1; replace h := h.2
      have f17 := h.1; replace h := h.2
      have f18 := h.1; replace h := h.2
      have f19 := h; clear h
      intro K hK
      have g1 := f1 (hA 1 (by simp))
      obtain rfl := g1
      rw [if_pos (by kernel_rfl)]
      have q0 := cellB hHeld C0 hg
      have q1 := cellB hHeld C1 hg
      have q2 := cellB hHeld C2 hg
      have q3 := cellB hHeld C3 hg
      have q4 := cellB hHeld C4 hg
      go_simp
      try simp only [Act.put, List.setIfInBounds_toArray, List.set_cons_zero, List.set_cons_succ]
      refine hK.out _ _ ⟨_, _, _, _, _, _, _, _, _, _, _, _, _, _, _, _, _, _, _, _, rfl, ?_, ?_, ?_, ?_, ?_, ?_, ?_, ?_, ?_, ?_, ?_, ?_, ?_⟩
      · first | exact hHeld | exact hHeld.trans (hb.mono hHeld.size) | (trace_state; fail)
      · first | exact flag_ne (by decide) f0 | exact fun _ => rfl
      · first | exact flag_ne (by decide) f1 | exact fun _ => rfl
      · intro _; first | rfl | (trace_state; fail)
      · intro h; rw [getD_set_ne false (by decide)] at h; exact (getD_no h0 (hC.step (j := 3) (k := 2) h (by kernel_rfl))).elim
      · first | exact flag_ne (by decide) f4 | exact fun _ => rfl
      · first | exact flag_ne (by decide) f5 | exact fun _ => rfl
      · first | exact flag_ne (by decide) f6 | exact fun _ => rfl
      · first | exact flag_ne (by decide) f7 | exact fun _ => rfl
      · first | exact flag_ne (by decide) f8 | exact fun _ => rfl
      · first | exact flag_ne (by decide) f17 | exact fun _ => rfl
      · intro h; rw [getD_set_ne false (by decide)] at h; exact (getD_no h0 (hC.step (j := 18) (k := 2) h (by kernel_rfl))).elim
      · first | exact flag_ne (by decide) f19 | exact fun _ => rfl
    · refine StepAt.mk (o := { dst := some 20, op := Op.call { callee := Callee.value (Operand.func 22), args := #[Operand.tmp 17, Operand.const (Value.int IntKind.i64 8), Operand.tmp 19], argTypes := #[30, 3, 3] }, type := 30, pos := _, after := #[{ on := 0, ground := Ground.data }, { on := 2, ground := Ground.data }], guard := none }) (ws := [0, 2]) rfl (by kernel_rfl) ?_
      intro L b v hC h0 hA h
      refine h.elim ?_; clear h; intro u2 h
      refine h.elim ?_; clear h; intro u3 h
      refine h.elim ?_; clear h; intro u17 h
      refine h.elim ?_; clear h; intro u18 h
      refine h.elim ?_; clear h; intro u19 h
      refine h.elim ?_; clear h; intro u20 h
      refine h.elim ?_; clear h; intro u21 h
      refine h.elim ?_; clear h; intro u22 h
      refine h.elim ?_; clear h; intro u23 h
      refine h.elim ?_; clear h; intro u24 h
      refine h.elim ?_; clear h; intro u25 h
      refine h.elim ?_; clear h; intro u26 h
      refine h.elim ?_; clear h; intro u27 h
      refine h.elim ?_; clear h; intro u28 h
      refine h.elim ?_; clear h; intro u29 h
      refine h.elim ?_; clear h; intro u30 h
      refine h.elim ?_; clear h; intro u31 h
      refine h.elim ?_; clear h; intro u32 h
      refine h.elim ?_; clear h; intro u33 h
      refine h.elim ?_; clear h; intro u34 h
      have hbb := h.1; replace h := h.2; subst hbb
      have hHeld := h.1; replace h := h.2
      have f0 := h.1; replace h := h.2
      have f1 := h.1; replace h := h.2
      have f2 := h.1; replace h := h.2
      have f3 := h.1; replace h := h.2
      have f4 := h.1; replace h := h.2
      have f5 := h.1; replace h := h.2
      have f6 := h.1; replace h := h.2
      have f7 := h.1; replace h := h.2
      have f8 := h.1; replace h := h.2
      have f17 := h.1; replace h := h.2
      have f18 := h.1; replace h := h.2
      have f19 := h; clear h
      intro K hK
      have g0 := f0 (hA 0 (by simp))
      obtain rfl := g0
      have g2 := f2 (hA 2 (by simp))
      obtain rfl := g2
      rw [if_pos (by kernel_rfl)]
      have q0 := cellB hHeld C0 hg
      have q1 := cellB hHeld C1 hg
      have q2 := cellB hHeld C2 hg
      have q3 := cellB hHeld C3 hg
      have q4 := cellB hHeld C4 hg
      go_simp
      refine (octet_Put _ l 8 x.init v (RowAt.owns (owns_below HO4 hHeld) (fun i hi => byteV_at hi)) (by omega)).mono ?_; rintro e v1 ⟨r, rfl, HO, hb⟩
      go_wp2_with fail
      try simp only [Act.put, List.setIfInBounds_toArray, List.set_cons_zero, List.set_cons_succ]
      refine hK.out _ _ ⟨_, _, _, _, _, _, _, _, _, _, _, _, _, _, _, _, _, _, _, _, rfl, ?_, ?_, ?_, ?_, ?_, ?_, ?_, ?_, ?_, ?_, ?_, ?_, ?_⟩
      · first | exact hHeld | exact hHeld.trans (hb.mono hHeld.size) | (trace_state; fail)
      · first | exact flag_ne (by decide) f0 | exact fun _ => rfl
      · first | exact flag_ne (by decide) f1 | exact fun _ => rfl
      · first | exact flag_ne (by decide) f2 | exact fun _ => rfl
      · intro _; first | exact own_low HO hHeld.size | (trace_state; fail)
      · first | exact flag_ne (by decide) f4 | exact fun _ => rfl
      · first | exact flag_ne (by decide) f5 | exact fun _ => rfl
      · first | exact flag_ne (by decide) f6 | exact fun _ => rfl
      · first | exact flag_ne (by decide) f7 | exact fun _ => rfl
      · first | exact flag_ne (by decide) f8 | exact fun _ => rfl
      · first | exact flag_ne (by decide) f17 | exact fun _ => rfl
      · intro h; rw [getD_set_ne false (by decide)] at h; exact (getD_no h0 (hC.step (j := 18) (k := 3) h (by kernel_rfl))).elim
      · first | exact flag_ne (by decide) f19 | exact fun _ => rfl
    · refine StepAt.mk (o := { dst := some 21, op := Op.fieldAddr 41 (Operand.tmp 1) 0, type := 0, pos := _, after := #[], guard := none }) (ws := []) rfl (by kernel_rfl) ?_
      intro L b v hC h0 hA h
      refine h.elim ?_; clear h; intro u2 h
      refine h.elim ?_; clear h; intro u3 h
      refine h.elim ?_; clear h; intro u17 h
      refine h.elim ?_; clear h; intro u18 h
      refine h.elim ?_; clear h; intro u19 h
      refine h.elim ?_; clear h; intro u20 h
      refine h.elim ?_; clear h; intro u21 h
      refine h.elim ?_; clear h; intro u22 h
      refine h.elim ?_; clear h; intro u23 h
      refine h.elim ?_; clear h; intro u24 h
      refine h.elim ?_; clear h; intro u25 h
      refine h.elim ?_; clear h; intro u26 h
      refine h.elim ?_; clear h; intro u27 h
      refine h.elim ?_; clear h; intro u28 h
      refine h.elim ?_; clear h; intro u29 h
      refine h.elim ?_; clear h; intro u30 h
      refine h.elim ?_; clear h; intro u31 h
      refine h.elim ?_; clear h; intro u32 h
      refine h.elim ?_; clear h; intro u33 h
      refine h.elim ?_; clear h; intro u34 h
      have hbb := h.1; replace h := h.2; subst hbb
      have hHeld := h.1; replace h := h.2
      have f0 := h.1; replace h := h.2
      have f1 := h.1; replace h := h.2
      have f2 := h.1; replace h := h.2
      have f3 := h.1; replace h := h.2
      have f4 := h.1; replace h := h.2
      have f5 := h.1; replace h := h.2
      have f6 := h.1; replace h := h.2
      have f7 := h.1; replace h := h.2
      have f8 := h.1; replace h := h.2
      have f17 := h.1; replace h := h.2
      have f18 := h.1; replace h := h.2
      have f19 := h; clear h
      intro K hK
      rw [if_pos (by kernel_rfl)]
      have q0 := cellB hHeld C0 hg
      have q1 := cellB hHeld C1 hg
      have q2 := cellB hHeld C2 hg
      have q3 := cellB hHeld C3 hg
      have q4 := cellB hHeld C4 hg
      go_simp
      try simp only [Act.put, List.setIfInBounds_toArray, List.set_cons_zero, List.set_cons_succ]
      refine hK.out _ _ ⟨_, _, _, _, _, _, _, _, _, _, _, _, _, _, _, _, _, _, _, _, rfl, ?_, ?_, ?_, ?_, ?_, ?_, ?_, ?_, ?_, ?_, ?_, ?_, ?_⟩
      · first | exact hHeld | exact hHeld.trans (hb.mono hHeld.size) | (trace_state; fail)
      · first | exact flag_ne (by decide) f0 | exact fun _ => rfl
      · first | exact flag_ne (by decide) f1 | exact fun _ => rfl
      · first | exact flag_ne (by decide) f2 | exact fun _ => rfl
      · intro h; rw [getD_set_ne false (by decide)] at h; have := f3 h; first | exact this | exact owns_below this hb | (trace_state; fail)
      · intro _; first | rfl | (trace_state; fail)
      · first | exact flag_ne (by decide) f5 | exact fun _ => rfl
      · first | exact flag_ne (by decide) f6 | exact fun _ => rfl
      · first | exact flag_ne (by decide) f7 | exact fun _ => rfl
      · first | exact flag_ne (by decide) f8 | exact fun _ => rfl
      · first | exact flag_ne (by decide) f17 | exact fun _ => rfl
      · intro h; rw [getD_set_ne false (by decide)] at h; exact (getD_no h0 (hC.step (j := 5) (k := 4) (hC.step (j := 6) (k := 5) (hC.step (j := 7) (k := 6) (hC.step (j := 8) (k := 7) (hC.step (j := 16) (k := 8) (hC.step (j := 18) (k := 16) h (by kernel_rfl)) (by kernel_rfl)) (by kernel_rfl)) (by kernel_rfl)) (by kernel_rfl)) (by kernel_rfl))).elim
      · first | exact flag_ne (by decide) f19 | exact fun _ => rfl
    · refine StepAt.mk (o := { dst := some 22, op := Op.load 9 (Operand.tmp 21), type := 9, pos := _, after := #[{ on := 4, ground := Ground.data }], guard := none }) (ws := [4]) rfl (by kernel_rfl) ?_
      intro L b v hC h0 hA h
      refine h.elim ?_; clear h; intro u2 h
      refine h.elim ?_; clear h; intro u3 h
      refine h.elim ?_; clear h; intro u17 h
      refine h.elim ?_; clear h; intro u18 h
      refine h.elim ?_; clear h; intro u19 h
      refine h.elim ?_; clear h; intro u20 h
      refine h.elim ?_; clear h; intro u21 h
      refine h.elim ?_; clear h; intro u22 h
      refine h.elim ?_; clear h; intro u23 h
      refine h.elim ?_; clear h; intro u24 h
      refine h.elim ?_; clear h; intro u25 h
      refine h.elim ?_; clear h; intro u26 h
      refine h.elim ?_; clear h; intro u27 h
      refine h.elim ?_; clear h; intro u28 h
      refine h.elim ?_; clear h; intro u29 h
      refine h.elim ?_; clear h; intro u30 h
      refine h.elim ?_; clear h; intro u31 h
      refine h.elim ?_; clear h; intro u32 h
      refine h.elim ?_; clear h; intro u33 h
      refine h.elim ?_; clear h; intro u34 h
      have hbb := h.1; replace h := h.2; subst hbb
      have hHeld := h.1; replace h := h.2
      have f0 := h.1; replace h := h.2
      have f1 := h.1; replace h := h.2
      have f2 := h.1; replace h := h.2
      have f3 := h.1; replace h := h.2
      have f4 := h.1; replace h := h.2
      have f5 := h.1; replace h := h.2
      have f6 := h.1; replace h := h.2
      have f7 := h.1; replace h := h.2
      have f8 := h.1; replace h := h.2
      have f17 := h.1; replace h := h.2
      have f18 := h.1; replace h := h.2
      have f19 := h; clear h
      intro K hK
      have g4 := f4 (hA 4 (by simp))
      obtain rfl := g4
      rw [if_pos (by kernel_rfl)]
      have q0 := cellB hHeld C0 hg
      have q1 := cellB hHeld C1 hg
      have q2 := cellB hHeld C2 hg
      have q3 := cellB hHeld C3 hg
      have q4 := cellB hHeld C4 hg
      go_simp
      try simp only [Act.put, List.setIfInBounds_toArray, List.set_cons_zero, List.set_cons_succ]
      refine hK.out _ _ ⟨_, _, _, _, _, _, _, _, _, _, _, _, _, _, _, _, _, _, _, _, rfl, ?_, ?_, ?_, ?_, ?_, ?_, ?_, ?_, ?_, ?_, ?_, ?_, ?_⟩
      · first | exact hHeld | exact hHeld.trans (hb.mono hHeld.size) | (trace_state; fail)
      · first | exact flag_ne (by decide) f0 | exact fun _ => rfl
      · first | exact flag_ne (by decide) f1 | exact fun _ => rfl
      · first | exact flag_ne (by decide) f2 | exact fun _ => rfl
      · intro h; rw [getD_set_ne false (by decide)] at h; have := f3 h; first | exact this | exact owns_below this hb | (trace_state; fail)
      · first | exact flag_ne (by decide) f4 | exact fun _ => rfl
      · intro _; first | rfl | (trace_state; fail)
      · first | exact flag_ne (by decide) f6 | exact fun _ => rfl
      · first | exact flag_ne (by decide) f7 | exact fun _ => rfl
      · first | exact flag_ne (by decide) f8 | exact fun _ => rfl
      · first | exact flag_ne (by decide) f17 | exact fun _ => rfl
      · intro h; rw [getD_set_ne false (by decide)] at h; exact (getD_no h0 (hC.step (j := 6) (k := 5) (hC.step (j := 7) (k := 6) (hC.step (j := 8) (k := 7) (hC.step (j := 16) (k := 8) (hC.step (j := 18) (k := 16) h (by kernel_rfl)) (by kernel_rfl)) (by kernel_rfl)) (by kernel_rfl)) (by kernel_rfl))).elim
      · first | exact flag_ne (by decide) f19 | exact fun _ => rfl
    · refine StepAt.mk (o := { dst := some 23, op := Op.call { callee := Callee.builtin Builtin.len, args := #[Operand.tmp 22], argTypes := #[9] }, type := 3, pos := _, after := #[{ on := 5, ground := Ground.data }], guard := none }) (ws := [5]) rfl (by kernel_rfl) ?_
      intro L b v hC h0 hA h
      refine h.elim ?_; clear h; intro u2 h
      refine h.elim ?_; clear h; intro u3 h
      refine h.elim ?_; clear h; intro u17 h
      refine h.elim ?_; clear h; intro u18 h
      refine h.elim ?_; clear h; intro u19 h
      refine h.elim ?_; clear h; intro u20 h
      refine h.elim ?_; clear h; intro u21 h
      refine h.elim ?_; clear h; intro u22 h
      refine h.elim ?_; clear h; intro u23 h
      refine h.elim ?_; clear h; intro u24 h
      refine h.elim ?_; clear h; intro u25 h
      refine h.elim ?_; clear h; intro u26 h
      refine h.elim ?_; clear h; intro u27 h
      refine h.elim ?_; clear h; intro u28 h
      refine h.elim ?_; clear h; intro u29 h
      refine h.elim ?_; clear h; intro u30 h
      refine h.elim ?_; clear h; intro u31 h
      refine h.elim ?_; clear h; intro u32 h
      refine h.elim ?_; clear h; intro u33 h
      refine h.elim ?_; clear h; intro u34 h
      have hbb := h.1; replace h := h.2; subst hbb
      have hHeld := h.1; replace h := h.2
      have f0 := h.1; replace h := h.2
      have f1 := h.1; replace h := h.2
      have f2 := h.1; replace h := h.2
      have f3 := h.1; replace h := h.2
      have f4 := h.1; replace h := h.2
      have f5 := h.1; replace h := h.2
      have f6 := h.1; replace h := h.2
      have f7 := h.1; replace h := h.2
      have f8 := h.1; replace h := h.2
      have f17 := h.1; replace h := h.2
      have f18 := h.1; replace h := h.2
      have f19 := h; clear h
      intro K hK
      have g5 := f5 (hA 5 (by simp))
      obtain rfl := g5
      rw [if_pos (by kernel_rfl)]
      have q0 := cellB hHeld C0 hg
      have q1 := cellB hHeld C1 hg
      have q2 := cellB hHeld C2 hg
      have q3 := cellB hHeld C3 hg
      have q4 := cellB hHeld C4 hg
      go_simp
      try simp only [Act.put, List.setIfInBounds_toArray, List.set_cons_zero, List.set_cons_succ]
      refine hK.out _ _ ⟨_, _, _, _, _, _, _, _, _, _, _, _, _, _, _, _, _, _, _, _, rfl, ?_, ?_, ?_, ?_, ?_, ?_, ?_, ?_, ?_, ?_, ?_, ?_, ?_⟩
      · first | exact hHeld | exact hHeld.trans (hb.mono hHeld.size) | (trace_state; fail)
      · first | exact flag_ne (by decide) f0 | exact fun _ => rfl
      · first | exact flag_ne (by decide) f1 | exact fun _ => rfl
      · first | exact flag_ne (by decide) f2 | exact fun _ => rfl
      · intro h; rw [getD_set_ne false (by decide)] at h; have := f3 h; first | exact this | exact owns_below this hb | (trace_state; fail)
      · first | exact flag_ne (by decide) f4 | exact fun _ => rfl
      · first | exact flag_ne (by decide) f5 | exact fun _ => rfl
      · intro _; first | rfl | (trace_state; fail)
      · first | exact flag_ne (by decide) f7 | exact fun _ => rfl
      · first | exact flag_ne (by decide) f8 | exact fun _ => rfl
      · first | exact flag_ne (by decide) f17 | exact fun _ => rfl
      · intro h; rw [getD_set_ne false (by decide)] at h; exact (getD_no h0 (hC.step (j := 7) (k := 6) (hC.step (j := 8) (k := 7) (hC.step (j := 16) (k := 8) (hC.step (j := 18) (k := 16) h (by kernel_rfl)) (by kernel_rfl)) (by kernel_rfl)) (by kernel_rfl))).elim
      · first | exact flag_ne (by decide) f19 | exact fun _ => rfl
    · refine StepAt.mk (o := { dst := some 24, op := Op.binOp BinOp.leq 3 (Operand.tmp 23) (Operand.const (Value.int IntKind.i64 255)) 3, type := 4, pos := _, after := #[{ on := 6, ground := Ground.data }], guard := none }) (ws := [6]) rfl (by kernel_rfl) ?_
      intro L b v hC h0 hA h
      refine h.elim ?_; clear h; intro u2 h
      refine h.elim ?_; clear h; intro u3 h
      refine h.elim ?_; clear h; intro u17 h
      refine h.elim ?_; clear h; intro u18 h
      refine h.elim ?_; clear h; intro u19 h
      refine h.elim ?_; clear h; intro u20 h
      refine h.elim ?_; clear h; intro u21 h
      refine h.elim ?_; clear h; intro u22 h
      refine h.elim ?_; clear h; intro u23 h
      refine h.elim ?_; clear h; intro u24 h
      refine h.elim ?_; clear h; intro u25 h
      refine h.elim ?_; clear h; intro u26 h
      refine h.elim ?_; clear h; intro u27 h
      refine h.elim ?_; clear h; intro u28 h
      refine h.elim ?_; clear h; intro u29 h
      refine h.elim ?_; clear h; intro u30 h
      refine h.elim ?_; clear h; intro u31 h
      refine h.elim ?_; clear h; intro u32 h
      refine h.elim ?_; clear h; intro u33 h
      refine h.elim ?_; clear h; intro u34 h
      have hbb := h.1; replace h := h.2; subst hbb
      have hHeld := h.1; replace h := h.2
      have f0 := h.1; replace h := h.2
      have f1 := h.1; replace h := h.2
      have f2 := h.1; replace h := h.2
      have f3 := h.1; replace h := h.2
      have f4 := h.1; replace h := h.2
      have f5 := h.1; replace h := h.2
      have f6 := h.1; replace h := h.2
      have f7 := h.1; replace h := h.2
      have f8 := h.1; replace h := h.2
      have f17 := h.1; replace h := h.2
      have f18 := h.1; replace h := h.2
      have f19 := h; clear h
      intro K hK
      have g6 := f6 (hA 6 (by simp))
      obtain rfl := g6
      rw [if_pos (by kernel_rfl)]
      have q0 := cellB hHeld C0 hg
      have q1 := cellB hHeld C1 hg
      have q2 := cellB hHeld C2 hg
      have q3 := cellB hHeld C3 hg
      have q4 := cellB hHeld C4 hg
      go_simp
      try simp only [Act.put, List.setIfInBounds_toArray, List.set_cons_zero, List.set_cons_succ]
      refine hK.out _ _ ⟨_, _, _, _, _, _, _, _, _, _, _, _, _, _, _, _, _, _, _, _, rfl, ?_, ?_, ?_, ?_, ?_, ?_, ?_, ?_, ?_, ?_, ?_, ?_, ?_⟩
      · first | exact hHeld | exact hHeld.trans (hb.mono hHeld.size) | (trace_state; fail)
      · first | exact flag_ne (by decide) f0 | exact fun _ => rfl
      · first | exact flag_ne (by decide) f1 | exact fun _ => rfl
      · first | exact flag_ne (by decide) f2 | exact fun _ => rfl
      · intro h; rw [getD_set_ne false (by decide)] at h; have := f3 h; first | exact this | exact owns_below this hb | (trace_state; fail)
      · first | exact flag_ne (by decide) f4 | exact fun _ => rfl
      · first | exact flag_ne (by decide) f5 | exact fun _ => rfl
      · first | exact flag_ne (by decide) f6 | exact fun _ => rfl
      · intro _; first | rfl | (trace_state; fail)
      · first | exact flag_ne (by decide) f8 | exact fun _ => rfl
      · first | exact flag_ne (by decide) f17 | exact fun _ => rfl
      · intro h; rw [getD_set_ne false (by decide)] at h; exact (getD_no h0 (hC.step (j := 8) (k := 7) (hC.step (j := 16) (k := 8) (hC.step (j := 18) (k := 16) h (by kernel_rfl)) (by kernel_rfl)) (by kernel_rfl))).elim
      · first | exact flag_ne (by decide) f19 | exact fun _ => rfl
    · refine StepAt.mk (o := { dst := some 25, op := Op.move (Operand.tmp 24), type := 4, pos := _, after := #[{ on := 7, ground := Ground.data }, { on := 3, ground := Ground.chain }], guard := none }) (ws := [7, 3]) rfl (by kernel_rfl) ?_
      intro L b v hC h0 hA h
      refine h.elim ?_; clear h; intro u2 h
      refine h.elim ?_; clear h; intro u3 h
      refine h.elim ?_; clear h; intro u17 h
      refine h.elim ?_; clear h; intro u18 h
      refine h.elim ?_; clear h; intro u19 h
      refine h.elim ?_; clear h; intro u20 h
      refine h.elim ?_; clear h; intro u21 h
      refine h.elim ?_; clear h; intro u22 h
      refine h.elim ?_; clear h; intro u23 h
      refine h.elim ?_; clear h; intro u24 h
      refine h.elim ?_; clear h; intro u25 h
      refine h.elim ?_; clear h; intro u26 h
      refine h.elim ?_; clear h; intro u27 h
      refine h.elim ?_; clear h; intro u28 h
      refine h.elim ?_; clear h; intro u29 h
      refine h.elim ?_; clear h; intro u30 h
      refine h.elim ?_; clear h; intro u31 h
      refine h.elim ?_; clear h; intro u32 h
      refine h.elim ?_; clear h; intro u33 h
      refine h.elim ?_; clear h; intro u34 h
      have hbb := h.1; replace h := h.2; subst hbb
      have hHeld := h.1; replace h := h.2
      have f0 := h.1; replace h := h.2
      have f1 := h.1; replace h := h.2
      have f2 := h.1; replace h := h.2
      have f3 := h.1; replace h := h.2
      have f4 := h.1; replace h := h.2
      have f5 := h.1; replace h := h.2
      have f6 := h.1; replace h := h.2
      have f7 := h.1; replace h := h.2
      have f8 := h.1; replace h := h.2
      have f17 := h.1; replace h := h.2
      have f18 := h.1; replace h := h.2
      have f19 := h; clear h
      intro K hK
      have g7 := f7 (hA 7 (by simp))
      obtain rfl := g7
      have g3 := f3 (hA 3 (by simp))
      rw [if_pos (by kernel_rfl)]
      have q0 := cellB hHeld C0 hg
      have q1 := cellB hHeld C1 hg
      have q2 := cellB hHeld C2 hg
      have q3 := cellB hHeld C3 hg
      have q4 := cellB hHeld C4 hg
      go_simp
      try simp only [Act.put, List.setIfInBounds_toArray, List.set_cons_zero, List.set_cons_succ]
      refine hK.out _ _ ⟨_, _, _, _, _, _, _, _, _, _, _, _, _, _, _, _, _, _, _, _, rfl, ?_, ?_, ?_, ?_, ?_, ?_, ?_, ?_, ?_, ?_, ?_, ?_, ?_⟩
      · first | exact hHeld | exact hHeld.trans (hb.mono hHeld.size) | (trace_state; fail)
      · first | exact flag_ne (by decide) f0 | exact fun _ => rfl
      · first | exact flag_ne (by decide) f1 | exact fun _ => rfl
      · first | exact flag_ne (by decide) f2 | exact fun _ => rfl
      · intro h; rw [getD_set_ne false (by decide)] at h; have := f3 h; first | exact this | exact owns_below this hb | (trace_state; fail)
      · first | exact flag_ne (by decide) f4 | exact fun _ => rfl
      · first | exact flag_ne (by decide) f5 | exact fun _ => rfl
      · first | exact flag_ne (by decide) f6 | exact fun _ => rfl
      · first | exact flag_ne (by decide) f7 | exact fun _ => rfl
      · intro _; first | rfl | (trace_state; fail)
      · first | exact flag_ne (by decide) f17 | exact fun _ => rfl
      · intro h; rw [getD_set_ne false (by decide)] at h; exact (getD_no h0 (hC.step (j := 16) (k := 8) (hC.step (j := 18) (k := 16) h (by kernel_rfl)) (by kernel_rfl))).elim
      · first | exact flag_ne (by decide) f19 | exact fun _ => rfl
    · refine StepAt.mk (o := { dst := some 26, op := Op.fieldAddr 41 (Operand.tmp 1) 1, type := 0, pos := _, after := #[{ on := 8, ground := Ground.guard }], guard := some (8, true) }) (ws := [8]) rfl (by kernel_rfl) ?_
      intro L b v hC h0 hA h
      refine h.elim ?_; clear h; intro u2 h
      refine h.elim ?_; clear h; intro u3 h
      refine h.elim ?_; clear h; intro u17 h
      refine h.elim ?_; clear h; intro u18 h
      refine h.elim ?_; clear h; intro u19 h
      refine h.elim ?_; clear h; intro u20 h
      refine h.elim ?_; clear h; intro u21 h
      refine h.elim ?_; clear h; intro u22 h
      refine h.elim ?_; clear h; intro u23 h
      refine h.elim ?_; clear h; intro u24 h
      refine h.elim ?_; clear h; intro u25 h
      refine h.elim ?_; clear h; intro u26 h
      refine h.elim ?_; clear h; intro u27 h
      refine h.elim ?_; clear h; intro u28 h
      refine h.elim ?_; clear h; intro u29 h
      refine h.elim ?_; clear h; intro u30 h
      refine h.elim ?_; clear h; intro u31 h
      refine h.elim ?_; clear h; intro u32 h
      refine h.elim ?_; clear h; intro u33 h
      refine h.elim ?_; clear h; intro u34 h
      have hbb := h.1; replace h := h.2; subst hbb
      have hHeld := h.1; replace h := h.2
      have f0 := h.1; replace h := h.2
      have f1 := h.1; replace h := h.2
      have f2 := h.1; replace h := h.2
      have f3 := h.1; replace h := h.2
      have f4 := h.1; replace h := h.2
      have f5 := h.1; replace h := h.2
      have f6 := h.1; replace h := h.2
      have f7 := h.1; replace h := h.2
      have f8 := h.1; replace h := h.2
      have f17 := h.1; replace h := h.2
      have f18 := h.1; replace h := h.2
      have f19 := h; clear h
      intro K hK
      have g8 := f8 (hA 8 (by simp))
      obtain rfl := g8
      rw [if_neg (Bool.eq_false_iff.1 (by kernel_rfl))]
      try simp only [Act.put, List.setIfInBounds_toArray, List.set_cons_zero, List.set_cons_succ]
      refine hK.out _ _ ⟨_, _, _, _, _, _, _, _, _, _, _, _, _, _, _, _, _, _, _, _, rfl, ?_, ?_, ?_, ?_, ?_, ?_, ?_, ?_, ?_, ?_, ?_, ?_, ?_⟩
      · first | exact hHeld | exact hHeld.trans (hb.mono hHeld.size) | (trace_state; fail)
      · first | exact flag_ne (by decide) f0 | exact fun _ => rfl
      · first | exact flag_ne (by decide) f1 | exact fun _ => rfl
      · first | exact flag_ne (by decide) f2 | exact fun _ => rfl
      · intro h; rw [getD_set_ne false (by decide)] at h; have := f3 h; first | exact this | exact owns_below this hb | (trace_state; fail)
      · first | exact flag_ne (by decide) f4 | exact fun _ => rfl
      · first | exact flag_ne (by decide) f5 | exact fun _ => rfl
      · first | exact flag_ne (by decide) f6 | exact fun _ => rfl
      · first | exact flag_ne (by decide) f7 | exact fun _ => rfl
      · first | exact flag_ne (by decide) f8 | exact fun _ => rfl
      · first | exact flag_ne (by decide) f17 | exact fun _ => rfl
      · intro h; rw [getD_set_ne false (by decide)] at h; exact (getD_no h0 (hC.step (j := 10) (k := 9) (hC.step (j := 15) (k := 10) (hC.step (j := 16) (k := 15) (hC.step (j := 18) (k := 16) h (by kernel_rfl)) (by kernel_rfl)) (by kernel_rfl)) (by kernel_rfl))).elim
      · first | exact flag_ne (by decide) f19 | exact fun _ => rfl
    · refine StepAt.mk (o := { dst := some 27, op := Op.load 3 (Operand.tmp 26), type := 3, pos := _, after := #[{ on := 9, ground := Ground.data }, { on := 8, ground := Ground.guard }], guard := some (8, true) }) (ws := [9, 8]) rfl (by kernel_rfl) ?_
      intro L b v hC h0 hA h
      refine h.elim ?_; clear h; intro u2 h
      refine h.elim ?_; clear h; intro u3 h
      refine h.elim ?_; clear h; intro u17 h
      refine h.elim ?_; clear h; intro u18 h
      refine h.elim ?_; clear h; intro u19 h
      refine h.elim ?_; clear h; intro u20 h
      refine h.elim ?_; clear h; intro u21 h
      refine h.elim ?_; clear h; intro u22 h
      refine h.elim ?_; clear h; intro u23 h
      refine h.elim ?_; clear h; intro u24 h
      refine h.elim ?_; clear h; intro u25 h
      refine h.elim ?_; clear h; intro u26 h
      refine h.elim ?_; clear h; intro u27 h
      refine h.elim ?_; clear h; intro u28 h
      refine h.elim ?_; clear h; intro u29 h
      refine h.elim ?_; clear h; intro u30 h
      refine h.elim ?_; clear h; intro u31 h
      refine h.elim ?_; clear h; intro u32 h
      refine h.elim ?_; clear h; intro u33 h
      refine h.elim ?_; clear h; intro u34 h
      have hbb := h.1; replace h := h.2; subst hbb
      have hHeld := h.1; replace h := h.2
      have f0 := h.1; replace h := h.2
      have f1 := h.1; replace h := h.2
      have f2 := h.1; replace h := h.2
      have f3 := h.1; replace h := h.2
      have f4 := h.1; replace h := h.2
      have f5 := h.1; replace h := h.2
      have f6 := h.1; replace h := h.2
      have f7 := h.1; replace h := h.2
      have f8 := h.1; replace h := h.2
      have f17 := h.1; replace h := h.2
      have f18 := h.1; replace h := h.2
      have f19 := h; clear h
      intro K hK
      have g8 := f8 (hA 8 (by simp))
      obtain rfl := g8
      rw [if_neg (Bool.eq_false_iff.1 (by kernel_rfl))]
      try simp only [Act.put, List.setIfInBounds_toArray, List.set_cons_zero, List.set_cons_succ]
      refine hK.out _ _ ⟨_, _, _, _, _, _, _, _, _, _, _, _, _, _, _, _, _, _, _, _, rfl, ?_, ?_, ?_, ?_, ?_, ?_, ?_, ?_, ?_, ?_, ?_, ?_, ?_⟩
      · first | exact hHeld | exact hHeld.trans (hb.mono hHeld.size) | (trace_state; fail)
      · first | exact flag_ne (by decide) f0 | exact fun _ => rfl
      · first | exact flag_ne (by decide) f1 | exact fun _ => rfl
      · first | exact flag_ne (by decide) f2 | exact fun _ => rfl
      · intro h; rw [getD_set_ne false (by decide)] at h; have := f3 h; first | exact this | exact owns_below this hb | (trace_state; fail)
      · first | exact flag_ne (by decide) f4 | exact fun _ => rfl
      · first | exact flag_ne (by decide) f5 | exact fun _ => rfl
      · first | exact flag_ne (by decide) f6 | exact fun _ => rfl
      · first | exact flag_ne (by decide) f7 | exact fun _ => rfl
      · first | exact flag_ne (by decide) f8 | exact fun _ => rfl
      · first | exact flag_ne (by decide) f17 | exact fun _ => rfl
      · intro h; rw [getD_set_ne false (by decide)] at h; exact (getD_no h0 (hC.step (j := 15) (k := 10) (hC.step (j := 16) (k := 15) (hC.step (j := 18) (k := 16) h (by kernel_rfl)) (by kernel_rfl)) (by kernel_rfl))).elim
      · first | exact flag_ne (by decide) f19 | exact fun _ => rfl
    · refine StepAt.mk (o := { dst := some 28, op := Op.fieldAddr 41 (Operand.tmp 1) 2, type := 0, pos := _, after := #[{ on := 8, ground := Ground.guard }], guard := some (8, true) }) (ws := [8]) rfl (by kernel_rfl) ?_
      intro L b v hC h0 hA h
      refine h.elim ?_; clear h; intro u2 h
      refine h.elim ?_; clear h; intro u3 h
      refine h.elim ?_; clear h; intro u17 h
      refine h.elim ?_; clear h; intro u18 h
      refine h.elim ?_; clear h; intro u19 h
      refine h.elim ?_; clear h; intro u20 h
      refine h.elim ?_; clear h; intro u21 h
      refine h.elim ?_; clear h; intro u22 h
      refine h.elim ?_; clear h; intro u23 h
      refine h.elim ?_; clear h; intro u24 h
      refine h.elim ?_; clear h; intro u25 h
      refine h.elim ?_; clear h; intro u26 h
      refine h.elim ?_; clear h; intro u27 h
      refine h.elim ?_; clear h; intro u28 h
      refine h.elim ?_; clear h; intro u29 h
      refine h.elim ?_; clear h; intro u30 h
      refine h.elim ?_; clear h; intro u31 h
      refine h.elim ?_; clear h; intro u32 h
      refine h.elim ?_; clear h; intro u33 h
      refine h.elim ?_; clear h; intro u34 h
      have hbb := h.1; replace h := h.2; subst hbb
      have hHeld := h.1; replace h := h.2
      have f0 := h.1; replace h := h.2
      have f1 := h.1; replace h := h.2
      have f2 := h.1; replace h := h.2
      have f3 := h.1; replace h := h.2
      have f4 := h.1; replace h := h.2
      have f5 := h.1; replace h := h.2
      have f6 := h.1; replace h := h.2
      have f7 := h.1; replace h := h.2
      have f8 := h.1; replace h := h.2
      have f17 := h.1; replace h := h.2
      have f18 := h.1; replace h := h.2
      have f19 := h; clear h
      intro K hK
      have g8 := f8 (hA 8 (by simp))
      obtain rfl := g8
      rw [if_neg (Bool.eq_false_iff.1 (by kernel_rfl))]
      try simp only [Act.put, List.setIfInBounds_toArray, List.set_cons_zero, List.set_cons_succ]
      refine hK.out _ _ ⟨_, _, _, _, _, _, _, _, _, _, _, _, _, _, _, _, _, _, _, _, rfl, ?_, ?_, ?_, ?_, ?_, ?_, ?_, ?_, ?_, ?_, ?_, ?_, ?_⟩
      · first | exact hHeld | exact hHeld.trans (hb.mono hHeld.size) | (trace_state; fail)
      · first | exact flag_ne (by decide) f0 | exact fun _ => rfl
      · first | exact flag_ne (by decide) f1 | exact fun _ => rfl
      · first | exact flag_ne (by decide) f2 | exact fun _ => rfl
      · intro h; rw [getD_set_ne false (by decide)] at h; have := f3 h; first | exact this | exact owns_below this hb | (trace_state; fail)
      · first | exact flag_ne (by decide) f4 | exact fun _ => rfl
      · first | exact flag_ne (by decide) f5 | exact fun _ => rfl
      · first | exact flag_ne (by decide) f6 | exact fun _ => rfl
      · first | exact flag_ne (by decide) f7 | exact fun _ => rfl
      · first | exact flag_ne (by decide) f8 | exact fun _ => rfl
      · first | exact flag_ne (by decide) f17 | exact fun _ => rfl
      · intro h; rw [getD_set_ne false (by decide)] at h; exact (getD_no h0 (hC.step (j := 12) (k := 11) (hC.step (j := 15) (k := 12) (hC.step (j := 16) (k := 15) (hC.step (j := 18) (k := 16) h (by kernel_rfl)) (by kernel_rfl)) (by kernel_rfl)) (by kernel_rfl))).elim
      · first | exact flag_ne (by decide) f19 | exact fun _ => rfl
    · refine StepAt.mk (o := { dst := some 29, op := Op.load 3 (Operand.tmp 28), type := 3, pos := _, after := #[{ on := 11, ground := Ground.data }, { on := 8, ground := Ground.guard }], guard := some (8, true) }) (ws := [11, 8]) rfl (by kernel_rfl) ?_
      intro L b v hC h0 hA h
      refine h.elim ?_; clear h; intro u2 h
      refine h.elim ?_; clear h; intro u3 h
      refine h.elim ?_; clear h; intro u17 h
      refine h.elim ?_; clear h; intro u18 h
      refine h.elim ?_; clear h; intro u19 h
      refine h.elim ?_; clear h; intro u20 h
      refine h.elim ?_; clear h; intro u21 h
      refine h.elim ?_; clear h; intro u22 h
      refine h.elim ?_; clear h; intro u23 h
      refine h.elim ?_; clear h; intro u24 h
      refine h.elim ?_; clear h; intro u25 h
      refine h.elim ?_; clear h; intro u26 h
      refine h.elim ?_; clear h; intro u27 h
      refine h.elim ?_; clear h; intro u28 h
      refine h.elim ?_; clear h; intro u29 h
      refine h.elim ?_; clear h; intro u30 h
      refine h.elim ?_; clear h; intro u31 h
      refine h.elim ?_; clear h; intro u32 h
      refine h.elim ?_; clear h; intro u33 h
      refine h.elim ?_; clear h; intro u34 h
      have hbb := h.1; replace h := h.2; subst hbb
      have hHeld := h.1; replace h := h.2
      have f0 := h.1; replace h := h.2
      have f1 := h.1; replace h := h.2
      have f2 := h.1; replace h := h.2
      have f3 := h.1; replace h := h.2
      have f4 := h.1; replace h := h.2
      have f5 := h.1; replace h := h.2
      have f6 := h.1; replace h := h.2
      have f7 := h.1; replace h := h.2
      have f8 := h.1; replace h := h.2
      have f17 := h.1; replace h := h.2
      have f18 := h.1; replace h := h.2
      have f19 := h; clear h
      intro K hK
      have g8 := f8 (hA 8 (by simp))
      obtain rfl := g8
      rw [if_neg (Bool.eq_false_iff.1 (by kernel_rfl))]
      try simp only [Act.put, List.setIfInBounds_toArray, List.set_cons_zero, List.set_cons_succ]
      refine hK.out _ _ ⟨_, _, _, _, _, _, _, _, _, _, _, _, _, _, _, _, _, _, _, _, rfl, ?_, ?_, ?_, ?_, ?_, ?_, ?_, ?_, ?_, ?_, ?_, ?_, ?_⟩
      · first | exact hHeld | exact hHeld.trans (hb.mono hHeld.size) | (trace_state; fail)
      · first | exact flag_ne (by decide) f0 | exact fun _ => rfl
      · first | exact flag_ne (by decide) f1 | exact fun _ => rfl
      · first | exact flag_ne (by decide) f2 | exact fun _ => rfl
      · intro h; rw [getD_set_ne false (by decide)] at h; have := f3 h; first | exact this | exact owns_below this hb | (trace_state; fail)
      · first | exact flag_ne (by decide) f4 | exact fun _ => rfl
      · first | exact flag_ne (by decide) f5 | exact fun _ => rfl
      · first | exact flag_ne (by decide) f6 | exact fun _ => rfl
      · first | exact flag_ne (by decide) f7 | exact fun _ => rfl
      · first | exact flag_ne (by decide) f8 | exact fun _ => rfl
      · first | exact flag_ne (by decide) f17 | exact fun _ => rfl
      · intro h; rw [getD_set_ne false (by decide)] at h; exact (getD_no h0 (hC.step (j := 15) (k := 12) (hC.step (j := 16) (k := 15) (hC.step (j := 18) (k := 16) h (by kernel_rfl)) (by kernel_rfl)) (by kernel_rfl))).elim
      · first | exact flag_ne (by decide) f19 | exact fun _ => rfl
    · refine StepAt.mk (o := { dst := some 30, op := Op.fieldAddr 41 (Operand.tmp 1) 3, type := 0, pos := _, after := #[{ on := 8, ground := Ground.guard }], guard := some (8, true) }) (ws := [8]) rfl (by kernel_rfl) ?_
      intro L b v hC h0 hA h
      refine h.elim ?_; clear h; intro u2 h
      refine h.elim ?_; clear h; intro u3 h
      refine h.elim ?_; clear h; intro u17 h
      refine h.elim ?_; clear h; intro u18 h
      refine h.elim ?_; clear h; intro u19 h
      refine h.elim ?_; clear h; intro u20 h
      refine h.elim ?_; clear h; intro u21 h
      refine h.elim ?_; clear h; intro u22 h
      refine h.elim ?_; clear h; intro u23 h
      refine h.elim ?_; clear h; intro u24 h
      refine h.elim ?_; clear h; intro u25 h
      refine h.elim ?_; clear h; intro u26 h
      refine h.elim ?_; clear h; intro u27 h
      refine h.elim ?_; clear h; intro u28 h
      refine h.elim ?_; clear h; intro u29 h
      refine h.elim ?_; clear h; intro u30 h
      refine h.elim ?_; clear h; intro u31 h
      refine h.elim ?_; clear h; intro u32 h
      refine h.elim ?_; clear h; intro u33 h
      refine h.elim ?_; clear h; intro u34 h
      have hbb := h.1; replace h := h.2; subst hbb
      have hHeld := h.1; replace h := h.2
      have f0 := h.1; replace h := h.2
      have f1 := h.1; replace h := h.2
      have f2 := h.1; replace h := h.2
      have f3 := h.1; replace h := h.2
      have f4 := h.1; replace h := h.2
      have f5 := h.1; replace h := h.2
      have f6 := h.1; replace h := h.2
      have f7 := h.1; replace h := h.2
      have f8 := h.1; replace h := h.2
      have f17 := h.1; replace h := h.2
      have f18 := h.1; replace h := h.2
      have f19 := h; clear h
      intro K hK
      have g8 := f8 (hA 8 (by simp))
      obtain rfl := g8
      rw [if_neg (Bool.eq_false_iff.1 (by kernel_rfl))]
      try simp only [Act.put, List.setIfInBounds_toArray, List.set_cons_zero, List.set_cons_succ]
      refine hK.out _ _ ⟨_, _, _, _, _, _, _, _, _, _, _, _, _, _, _, _, _, _, _, _, rfl, ?_, ?_, ?_, ?_, ?_, ?_, ?_, ?_, ?_, ?_, ?_, ?_, ?_⟩
      · first | exact hHeld | exact hHeld.trans (hb.mono hHeld.size) | (trace_state; fail)
      · first | exact flag_ne (by decide) f0 | exact fun _ => rfl
      · first | exact flag_ne (by decide) f1 | exact fun _ => rfl
      · first | exact flag_ne (by decide) f2 | exact fun _ => rfl
      · intro h; rw [getD_set_ne false (by decide)] at h; have := f3 h; first | exact this | exact owns_below this hb | (trace_state; fail)
      · first | exact flag_ne (by decide) f4 | exact fun _ => rfl
      · first | exact flag_ne (by decide) f5 | exact fun _ => rfl
      · first | exact flag_ne (by decide) f6 | exact fun _ => rfl
      · first | exact flag_ne (by decide) f7 | exact fun _ => rfl
      · first | exact flag_ne (by decide) f8 | exact fun _ => rfl
      · first | exact flag_ne (by decide) f17 | exact fun _ => rfl
      · intro h; rw [getD_set_ne false (by decide)] at h; exact (getD_no h0 (hC.step (j := 14) (k := 13) (hC.step (j := 15) (k := 14) (hC.step (j := 16) (k := 15) (hC.step (j := 18) (k := 16) h (by kernel_rfl)) (by kernel_rfl)) (by kernel_rfl)) (by kernel_rfl))).elim
      · first | exact flag_ne (by decide) f19 | exact fun _ => rfl
    · refine StepAt.mk (o := { dst := some 31, op := Op.load 3 (Operand.tmp 30), type := 3, pos := _, after := #[{ on := 13, ground := Ground.data }, { on := 8, ground := Ground.guard }], guard := some (8, true) }) (ws := [13, 8]) rfl (by kernel_rfl) ?_
      intro L b v hC h0 hA h
      refine h.elim ?_; clear h; intro u2 h
      refine h.elim ?_; clear h; intro u3 h
      refine h.elim ?_; clear h; intro u17 h
      refine h.elim ?_; clear h; intro u18 h
      refine h.elim ?_; clear h; intro u19 h
      refine h.elim ?_; clear h; intro u20 h
      refine h.elim ?_; clear h; intro u21 h
      refine h.elim ?_; clear h; intro u22 h
      refine h.elim ?_; clear h; intro u23 h
      refine h.elim ?_; clear h; intro u24 h
      refine h.elim ?_; clear h; intro u25 h
      refine h.elim ?_; clear h; intro u26 h
      refine h.elim ?_; clear h; intro u27 h
      refine h.elim ?_; clear h; intro u28 h
      refine h.elim ?_; clear h; intro u29 h
      refine h.elim ?_; clear h; intro u30 h
      refine h.elim ?_; clear h; intro u31 h
      refine h.elim ?_; clear h; intro u32 h
      refine h.elim ?_; clear h; intro u33 h
      refine h.elim ?_; clear h; intro u34 h
      have hbb := h.1; replace h := h.2; subst hbb
      have hHeld := h.1; replace h := h.2
      have f0 := h.1; replace h := h.2
      have f1 := h.1; replace h := h.2
      have f2 := h.1; replace h := h.2
      have f3 := h.1; replace h := h.2
      have f4 := h.1; replace h := h.2
      have f5 := h.1; replace h := h.2
      have f6 := h.1; replace h := h.2
      have f7 := h.1; replace h := h.2
      have f8 := h.1; replace h := h.2
      have f17 := h.1; replace h := h.2
      have f18 := h.1; replace h := h.2
      have f19 := h; clear h
      intro K hK
      have g8 := f8 (hA 8 (by simp))
      obtain rfl := g8
      rw [if_neg (Bool.eq_false_iff.1 (by kernel_rfl))]
      try simp only [Act.put, List.setIfInBounds_toArray, List.set_cons_zero, List.set_cons_succ]
      refine hK.out _ _ ⟨_, _, _, _, _, _, _, _, _, _, _, _, _, _, _, _, _, _, _, _, rfl, ?_, ?_, ?_, ?_, ?_, ?_, ?_, ?_, ?_, ?_, ?_, ?_, ?_⟩
      · first | exact hHeld | exact hHeld.trans (hb.mono hHeld.size) | (trace_state; fail)
      · first | exact flag_ne (by decide) f0 | exact fun _ => rfl
      · first | exact flag_ne (by decide) f1 | exact fun _ => rfl
      · first | exact flag_ne (by decide) f2 | exact fun _ => rfl
      · intro h; rw [getD_set_ne false (by decide)] at h; have := f3 h; first | exact this | exact owns_below this hb | (trace_state; fail)
      · first | exact flag_ne (by decide) f4 | exact fun _ => rfl
      · first | exact flag_ne (by decide) f5 | exact fun _ => rfl
      · first | exact flag_ne (by decide) f6 | exact fun _ => rfl
      · first | exact flag_ne (by decide) f7 | exact fun _ => rfl
      · first | exact flag_ne (by decide) f8 | exact fun _ => rfl
      · first | exact flag_ne (by decide) f17 | exact fun _ => rfl
      · intro h; rw [getD_set_ne false (by decide)] at h; exact (getD_no h0 (hC.step (j := 15) (k := 14) (hC.step (j := 16) (k := 15) (hC.step (j := 18) (k := 16) h (by kernel_rfl)) (by kernel_rfl)) (by kernel_rfl))).elim
      · first | exact flag_ne (by decide) f19 | exact fun _ => rfl
    · refine StepAt.mk (o := { dst := some 32, op := Op.buildSlice 45 3 #[(0, Operand.tmp 27), (1, Operand.tmp 29), (2, Operand.tmp 31)], type := 45, pos := _, after := #[{ on := 10, ground := Ground.data }, { on := 12, ground := Ground.data }, { on := 14, ground := Ground.data }, { on := 8, ground := Ground.guard }], guard := some (8, true) }) (ws := [10, 12, 14, 8]) rfl (by kernel_rfl) ?_
      intro L b v hC h0 hA h
      refine h.elim ?_; clear h; intro u2 h
      refine h.elim ?_; clear h; intro u3 h
      refine h.elim ?_; clear h; intro u17 h
      refine h.elim ?_; clear h; intro u18 h
      refine h.elim ?_; clear h; intro u19 h
      refine h.elim ?_; clear h; intro u20 h
      refine h.elim ?_; clear h; intro u21 h
      refine h.elim ?_; clear h; intro u22 h
      refine h.elim ?_; clear h; intro u23 h
      refine h.elim ?_; clear h; intro u24 h
      refine h.elim ?_; clear h; intro u25 h
      refine h.elim ?_; clear h; intro u26 h
      refine h.elim ?_; clear h; intro u27 h
      refine h.elim ?_; clear h; intro u28 h
      refine h.elim ?_; clear h; intro u29 h
      refine h.elim ?_; clear h; intro u30 h
      refine h.elim ?_; clear h; intro u31 h
      refine h.elim ?_; clear h; intro u32 h
      refine h.elim ?_; clear h; intro u33 h
      refine h.elim ?_; clear h; intro u34 h
      have hbb := h.1; replace h := h.2; subst hbb
      have hHeld := h.1; replace h := h.2
      have f0 := h.1; replace h := h.2
      have f1 := h.1; replace h := h.2
      have f2 := h.1; replace h := h.2
      have f3 := h.1; replace h := h.2
      have f4 := h.1; replace h := h.2
      have f5 := h.1; replace h := h.2
      have f6 := h.1; replace h := h.2
      have f7 := h.1; replace h := h.2
      have f8 := h.1; replace h := h.2
      have f17 := h.1; replace h := h.2
      have f18 := h.1; replace h := h.2
      have f19 := h; clear h
      intro K hK
      have g8 := f8 (hA 8 (by simp))
      obtain rfl := g8
      rw [if_neg (Bool.eq_false_iff.1 (by kernel_rfl))]
      try simp only [Act.put, List.setIfInBounds_toArray, List.set_cons_zero, List.set_cons_succ]
      refine hK.out _ _ ⟨_, _, _, _, _, _, _, _, _, _, _, _, _, _, _, _, _, _, _, _, rfl, ?_, ?_, ?_, ?_, ?_, ?_, ?_, ?_, ?_, ?_, ?_, ?_, ?_⟩
      · first | exact hHeld | exact hHeld.trans (hb.mono hHeld.size) | (trace_state; fail)
      · first | exact flag_ne (by decide) f0 | exact fun _ => rfl
      · first | exact flag_ne (by decide) f1 | exact fun _ => rfl
      · first | exact flag_ne (by decide) f2 | exact fun _ => rfl
      · intro h; rw [getD_set_ne false (by decide)] at h; have := f3 h; first | exact this | exact owns_below this hb | (trace_state; fail)
      · first | exact flag_ne (by decide) f4 | exact fun _ => rfl
      · first | exact flag_ne (by decide) f5 | exact fun _ => rfl
      · first | exact flag_ne (by decide) f6 | exact fun _ => rfl
      · first | exact flag_ne (by decide) f7 | exact fun _ => rfl
      · first | exact flag_ne (by decide) f8 | exact fun _ => rfl
      · first | exact flag_ne (by decide) f17 | exact fun _ => rfl
      · intro h; rw [getD_set_ne false (by decide)] at h; exact (getD_no h0 (hC.step (j := 16) (k := 15) (hC.step (j := 18) (k := 16) h (by kernel_rfl)) (by kernel_rfl))).elim
      · first | exact flag_ne (by decide) f19 | exact fun _ => rfl
    · refine StepAt.mk (o := { dst := some 33, op := Op.call { callee := Callee.value (Operand.func 48), args := #[Operand.tmp 32], argTypes := #[45] }, type := 4, pos := _, after := #[{ on := 15, ground := Ground.data }, { on := 8, ground := Ground.chain }, { on := 8, ground := Ground.guard }], guard := some (8, true) }) (ws := [15, 8, 8]) rfl (by kernel_rfl) ?_
      intro L b v hC h0 hA h
      refine h.elim ?_; clear h; intro u2 h
      refine h.elim ?_; clear h; intro u3 h
      refine h.elim ?_; clear h; intro u17 h
      refine h.elim ?_; clear h; intro u18 h
      refine h.elim ?_; clear h; intro u19 h
      refine h.elim ?_; clear h; intro u20 h
      refine h.elim ?_; clear h; intro u21 h
      refine h.elim ?_; clear h; intro u22 h
      refine h.elim ?_; clear h; intro u23 h
      refine h.elim ?_; clear h; intro u24 h
      refine h.elim ?_; clear h; intro u25 h
      refine h.elim ?_; clear h; intro u26 h
      refine h.elim ?_; clear h; intro u27 h
      refine h.elim ?_; clear h; intro u28 h
      refine h.elim ?_; clear h; intro u29 h
      refine h.elim ?_; clear h; intro u30 h
      refine h.elim ?_; clear h; intro u31 h
      refine h.elim ?_; clear h; intro u32 h
      refine h.elim ?_; clear h; intro u33 h
      refine h.elim ?_; clear h; intro u34 h
      have hbb := h.1; replace h := h.2; subst hbb
      have hHeld := h.1; replace h := h.2
      have f0 := h.1; replace h := h.2
      have f1 := h.1; replace h := h.2
      have f2 := h.1; replace h := h.2
      have f3 := h.1; replace h := h.2
      have f4 := h.1; replace h := h.2
      have f5 := h.1; replace h := h.2
      have f6 := h.1; replace h := h.2
      have f7 := h.1; replace h := h.2
      have f8 := h.1; replace h := h.2
      have f17 := h.1; replace h := h.2
      have f18 := h.1; replace h := h.2
      have f19 := h; clear h
      intro K hK
      have g8 := f8 (hA 8 (by simp))
      obtain rfl := g8
      rw [if_neg (Bool.eq_false_iff.1 (by kernel_rfl))]
      try simp only [Act.put, List.setIfInBounds_toArray, List.set_cons_zero, List.set_cons_succ]
      refine hK.out _ _ ⟨_, _, _, _, _, _, _, _, _, _, _, _, _, _, _, _, _, _, _, _, rfl, ?_, ?_, ?_, ?_, ?_, ?_, ?_, ?_, ?_, ?_, ?_, ?_, ?_⟩
      · first | exact hHeld | exact hHeld.trans (hb.mono hHeld.size) | (trace_state; fail)
      · first | exact flag_ne (by decide) f0 | exact fun _ => rfl
      · first | exact flag_ne (by decide) f1 | exact fun _ => rfl
      · first | exact flag_ne (by decide) f2 | exact fun _ => rfl
      · intro h; rw [getD_set_ne false (by decide)] at h; have := f3 h; first | exact this | exact owns_below this hb | (trace_state; fail)
      · first | exact flag_ne (by decide) f4 | exact fun _ => rfl
      · first | exact flag_ne (by decide) f5 | exact fun _ => rfl
      · first | exact flag_ne (by decide) f6 | exact fun _ => rfl
      · first | exact flag_ne (by decide) f7 | exact fun _ => rfl
      · first | exact flag_ne (by decide) f8 | exact fun _ => rfl
      · first | exact flag_ne (by decide) f17 | exact fun _ => rfl
      · intro h; rw [getD_set_ne false (by decide)] at h; exact (getD_no h0 (hC.step (j := 18) (k := 16) h (by kernel_rfl))).elim
      · first | exact flag_ne (by decide) f19 | exact fun _ => rfl
    · refine StepAt.mk (o := { dst := some 34, op := Op.pick (Operand.tmp 25) (Operand.tmp 33) (Operand.const (Value.bool false)), type := 4, pos := _, after := #[{ on := 8, ground := Ground.data }, { on := 16, ground := Ground.data }, { on := 18, ground := Ground.gcOnly Departure.lateStores }], guard := none }) (ws := [8, 16]) rfl (by kernel_rfl) ?_
      intro L b v hC h0 hA h
      refine h.elim ?_; clear h; intro u2 h
      refine h.elim ?_; clear h; intro u3 h
      refine h.elim ?_; clear h; intro u17 h
      refine h.elim ?_; clear h; intro u18 h
      refine h.elim ?_; clear h; intro u19 h
      refine h.elim ?_; clear h; intro u20 h
      refine h.elim ?_; clear h; intro u21 h
      refine h.elim ?_; clear h; intro u22 h
      refine h.elim ?_; clear h; intro u23 h
      refine h.elim ?_; clear h; intro u24 h
      refine h.elim ?_; clear h; intro u25 h
      refine h.elim ?_; clear h; intro u26 h
      refine h.elim ?_; clear h; intro u27 h
      refine h.elim ?_; clear h; intro u28 h
      refine h.elim ?_; clear h; intro u29 h
      refine h.elim ?_; clear h; intro u30 h
      refine h.elim ?_; clear h; intro u31 h
      refine h.elim ?_; clear h; intro u32 h
      refine h.elim ?_; clear h; intro u33 h
      refine h.elim ?_; clear h; intro u34 h
      have hbb := h.1; replace h := h.2; subst hbb
      have hHeld := h.1; replace h := h.2
      have f0 := h.1; replace h := h.2
      have f1 := h.1; replace h := h.2
      have f2 := h.1; replace h := h.2
      have f3 := h.1; replace h := h.2
      have f4 := h.1; replace h := h.2
      have f5 := h.1; replace h := h.2
      have f6 := h.1; replace h := h.2
      have f7 := h.1; replace h := h.2
      have f8 := h.1; replace h := h.2
      have f17 := h.1; replace h := h.2
      have f18 := h.1; replace h := h.2
      have f19 := h; clear h
      intro K hK
      have g8 := f8 (hA 8 (by simp))
      obtain rfl := g8
      rw [if_pos (by kernel_rfl)]
      have q0 := cellB hHeld C0 hg
      have q1 := cellB hHeld C1 hg
      have q2 := cellB hHeld C2 hg
      have q3 := cellB hHeld C3 hg
      have q4 := cellB hHeld C4 hg
      go_simp
      try simp only [Act.put, List.setIfInBounds_toArray, List.set_cons_zero, List.set_cons_succ]
      refine hK.out _ _ ⟨_, _, _, _, _, _, _, _, _, _, _, _, _, _, _, _, _, _, _, _, rfl, ?_, ?_, ?_, ?_, ?_, ?_, ?_, ?_, ?_, ?_, ?_, ?_, ?_⟩
      · first | exact hHeld | exact hHeld.trans (hb.mono hHeld.size) | (trace_state; fail)
      · first | exact flag_ne (by decide) f0 | exact fun _ => rfl
      · first | exact flag_ne (by decide) f1 | exact fun _ => rfl
      · first | exact flag_ne (by decide) f2 | exact fun _ => rfl
      · intro h; rw [getD_set_ne false (by decide)] at h; have := f3 h; first | exact this | exact owns_below this hb | (trace_state; fail)
      · first | exact flag_ne (by decide) f4 | exact fun _ => rfl
      · first | exact flag_ne (by decide) f5 | exact fun _ => rfl
      · first | exact flag_ne (by decide) f6 | exact fun _ => rfl
      · first | exact flag_ne (by decide) f7 | exact fun _ => rfl
      · first | exact flag_ne (by decide) f8 | exact fun _ => rfl
      · intro _; first | rfl | (trace_state; fail)
      · intro h; rw [getD_set_ne false (by decide)] at h; have := f18 h; first | exact this | exact owns_below this hb | (trace_state; fail)
      · first | exact flag_ne (by decide) f19 | exact fun _ => rfl
    · refine StepAt.mk (o := { dst := some 2, op := Op.assign (Operand.tmp 20), type := 30, pos := _, after := #[{ on := 3, ground := Ground.data }, { on := 16, ground := Ground.chain }, { on := 0, ground := Ground.phase }, { on := 1, ground := Ground.phase }, { on := 2, ground := Ground.phase }, { on := 3, ground := Ground.phase }, { on := 4, ground := Ground.textOnly Departure.lateStores }, { on := 5, ground := Ground.textOnly Departure.lateStores }, { on := 6, ground := Ground.textOnly Departure.lateStoresUnsure }, { on := 7, ground := Ground.textOnly Departure.lateStores }, { on := 8, ground := Ground.textOnly Departure.lateStores }, { on := 9, ground := Ground.textOnly Departure.lateStores }, { on := 10, ground := Ground.textOnly Departure.lateStores }, { on := 11, ground := Ground.textOnly Departure.lateStores }, { on := 12, ground := Ground.textOnly Departure.lateStores }, { on := 13, ground := Ground.textOnly Departure.lateStores }, { on := 14, ground := Ground.textOnly Departure.lateStores }, { on := 15, ground := Ground.textOnly Departure.lateStores }, { on := 16, ground := Ground.textOnly Departure.lateStoresUnsure }, { on := 17, ground := Ground.textOnly Departure.lateStores }], guard := none }) (ws := [3, 16, 0, 1, 2, 3]) rfl (by kernel_rfl) ?_
      intro L b v hC h0 hA h
      refine h.elim ?_; clear h; intro u2 h
      refine h.elim ?_; clear h; intro u3 h
      refine h.elim ?_; clear h; intro u17 h
      refine h.elim ?_; clear h; intro u18 h
      refine h.elim ?_; clear h; intro u19 h
      refine h.elim ?_; clear h; intro u20 h
      refine h.elim ?_; clear h; intro u21 h
      refine h.elim ?_; clear h; intro u22 h
      refine h.elim ?_; clear h; intro u23 h
      refine h.elim ?_; clear h; intro u24 h
      refine h.elim ?_; clear h; intro u25 h
      refine h.elim ?_; clear h; intro u26 h
      refine h.elim ?_; clear h; intro u27 h
      refine h.elim ?_; clear h; intro u28 h
      refine h.elim ?_; clear h; intro u29 h
      refine h.elim ?_; clear h; intro u30 h
      refine h.elim ?_; clear h; intro u31 h
      refine h.elim ?_; clear h; intro u32 h
      refine h.elim ?_; clear h; intro u33 h
      refine h.elim ?_; clear h; intro u34 h
      have hbb := h.1; replace h := h.2; subst hbb
      have hHeld := h.1; replace h := h.2
      have f0 := h.1; replace h := h.2
      have f1 := h.1; replace h := h.2
      have f2 := h.1; replace h := h.2
      have f3 := h.1; replace h := h.2
      have f4 := h.1; replace h := h.2
      have f5 := h.1; replace h := h.2
      have f6 := h.1; replace h := h.2
      have f7 := h.1; replace h := h.2
      have f8 := h.1; replace h := h.2
      have f17 := h.1; replace h := h.2
      have f18 := h.1; replace h := h.2
      have f19 := h; clear h
      intro K hK
      have g3 := f3 (hA 3 (by simp))
      have g0 := f0 (hA 0 (by simp))
      obtain rfl := g0
      have g1 := f1 (hA 1 (by simp))
      obtain rfl := g1
      have g2 := f2 (hA 2 (by simp))
      obtain rfl := g2
      rw [if_pos (by kernel_rfl)]
      have q0 := cellB hHeld C0 hg
      have q1 := cellB hHeld C1 hg
      have q2 := cellB hHeld C2 hg
      have q3 := cellB hHeld C3 hg
      have q4 := cellB hHeld C4 hg
      go_simp
      try simp only [Act.put, List.setIfInBounds_toArray, List.set_cons_zero, List.set_cons_succ]
      refine hK.out _ _ ⟨_, _, _, _, _, _, _, _, _, _, _, _, _, _, _, _, _, _, _, _, rfl, ?_, ?_, ?_, ?_, ?_, ?_, ?_, ?_, ?_, ?_, ?_, ?_, ?_⟩
      · first | exact hHeld | exact hHeld.trans (hb.mono hHeld.size) | (trace_state; fail)
      · first | exact flag_ne (by decide) f0 | exact fun _ => rfl
      · first | exact flag_ne (by decide) f1 | exact fun _ => rfl
      · first | exact flag_ne (by decide) f2 | exact fun _ => rfl
      · intro h; rw [getD_set_ne false (by decide)] at h; have := f3 h; first | exact this | exact owns_below this hb | (trace_state; fail)
      · first | exact flag_ne (by decide) f4 | exact fun _ => rfl
      · first | exact flag_ne (by decide) f5 | exact fun _ => rfl
      · first | exact flag_ne (by decide) f6 | exact fun _ => rfl
      · first | exact flag_ne (by decide) f7 | exact fun _ => rfl
      · first | exact flag_ne (by decide) f8 | exact fun _ => rfl
      · first | exact flag_ne (by decide) f17 | exact fun _ => rfl
      · intro _; first | exact g3 | (trace_state; fail)
      · first | exact flag_ne (by decide) f19 | exact fun _ => rfl
    · refine StepAt.mk (o := { dst := some 3, op := Op.assign (Operand.tmp 34), type := 4, pos := _, after := #[{ on := 17, ground := Ground.data }, { on := 18, ground := Ground.chain }, { on := 0, ground := Ground.phase }, { on := 1, ground := Ground.phase }, { on := 2, ground := Ground.phase }, { on := 3, ground := Ground.phase }, { on := 4, ground := Ground.phase }, { on := 5, ground := Ground.phase }, { on := 6, ground := Ground.phase }, { on := 7, ground := Ground.phase }, { on := 8, ground := Ground.phase }, { on := 9, ground := Ground.phase }, { on := 10, ground := Ground.phase }, { on := 11, ground := Ground.phase }, { on := 12, ground := Ground.phase }, { on := 13, ground := Ground.phase }, { on := 14, ground := Ground.phase }, { on := 15, ground := Ground.phase }, { on := 16, ground := Ground.phase }, { on := 17, ground := Ground.phase }, { on := 18, ground := Ground.phase }], guard := none }) (ws := [17, 18, 0, 1, 2, 3, 4, 5, 6, 7, 8, 9, 10, 11, 12, 13, 14, 15, 16, 17, 18]) rfl (by kernel_rfl) ?_
      intro L b v hC h0 hA h
      refine h.elim ?_; clear h; intro u2 h
      refine h.elim ?_; clear h; intro u3 h
      refine h.elim ?_; clear h; intro u17 h
      refine h.elim ?_; clear h; intro u18 h
      refine h.elim ?_; clear h; intro u19 h
      refine h.elim ?_; clear h; intro u20 h
      refine h.elim ?_; clear h; intro u21 h
      refine h.elim ?_; clear h; intro u22 h
      refine h.elim ?_; clear h; intro u23 h
      refine h.elim ?_; clear h; intro u24 h
      refine h.elim ?_; clear h; intro u25 h
      refine h.elim ?_; clear h; intro u26 h
      refine h.elim ?_; clear h; intro u27 h
      refine h.elim ?_; clear h; intro u28 h
      refine h.elim ?_; clear h; intro u29 h
      refine h.elim ?_; clear h; intro u30 h
      refine h.elim ?_; clear h; intro u31 h
      refine h.elim ?_; clear h; intro u32 h
      refine h.elim ?_; clear h; intro u33 h
      refine h.elim ?_; clear h; intro u34 h
      have hbb := h.1; replace h := h.2; subst hbb
      have hHeld := h.1; replace h := h.2
      have f0 := h.1; replace h := h.2
      have f1 := h.1; replace h := h.2
      have f2 := h.1; replace h := h.2
      have f3 := h.1; replace h := h.2
      have f4 := h.1; replace h := h.2
      have f5 := h.1; replace h := h.2
      have f6 := h.1; replace h := h.2
      have f7 := h.1; replace h := h.2
      have f8 := h.1; replace h := h.2
      have f17 := h.1; replace h := h.2
      have f18 := h.1; replace h := h.2
      have f19 := h; clear h
      intro K hK
      have g17 := f17 (hA 17 (by simp))
      obtain rfl := g17
      have g18 := f18 (hA 18 (by simp))
      have g0 := f0 (hA 0 (by simp))
      obtain rfl := g0
      have g1 := f1 (hA 1 (by simp))
      obtain rfl := g1
      have g2 := f2 (hA 2 (by simp))
      obtain rfl := g2
      have g3 := f3 (hA 3 (by simp))
      have g4 := f4 (hA 4 (by simp))
      obtain rfl := g4
      have g5 := f5 (hA 5 (by simp))
      obtain rfl := g5
      have g6 := f6 (hA 6 (by simp))
      obtain rfl := g6
      have g7 := f7 (hA 7 (by simp))
      obtain rfl := g7
      have g8 := f8 (hA 8 (by simp))
      obtain rfl := g8
      rw [if_pos (by kernel_rfl)]
      have q0 := cellB hHeld C0 hg
      have q1 := cellB hHeld C1 hg
      have q2 := cellB hHeld C2 hg
      have q3 := cellB hHeld C3 hg
      have q4 := cellB hHeld C4 hg
      go_simp
      try simp only [Act.put, List.setIfInBounds_toArray, List.set_cons_zero, List.set_cons_succ]
      refine hK.out _ _ ⟨_, _, _, _, _, _, _, _, _, _, _, _, _, _, _, _, _, _, _, _, rfl, ?_, ?_, ?_, ?_, ?_, ?_, ?_, ?_, ?_, ?_, ?_, ?_, ?_⟩
      · first | exact hHeld | exact hHeld.trans (hb.mono hHeld.size) | (trace_state; fail)
      · first | exact flag_ne (by decide) f0 | exact fun _ => rfl
      · first | exact flag_ne (by decide) f1 | exact fun _ => rfl
      · first | exact flag_ne (by decide) f2 | exact fun _ => rfl
      · intro h; rw [getD_set_ne false (by decide)] at h; have := f3 h; first | exact this | exact owns_below this hb | (trace_state; fail)
      · first | exact flag_ne (by decide) f4 | exact fun _ => rfl
      · first | exact flag_ne (by decide) f5 | exact fun _ => rfl
      · first | exact flag_ne (by decide) f6 | exact fun _ => rfl
      · first | exact flag_ne (by decide) f7 | exact fun _ => rfl
      · first | exact flag_ne (by decide) f8 | exact fun _ => rfl
      · first | exact flag_ne (by decide) f17 | exact fun _ => rfl
      · intro h; rw [getD_set_ne false (by decide)] at h; have := f18 h; first | exact this | exact owns_below this hb | (trace_state; fail)
      · intro _; first | rfl | (trace_state; fail)
  intro L b v hA h
  refine h.elim ?_; clear h; intro u2 h
  refine h.elim ?_; clear h; intro u3 h
  refine h.elim ?_; clear h; intro u17 h
  refine h.elim ?_; clear h; intro u18 h
  refine h.elim ?_; clear h; intro u19 h
  refine h.elim ?_; clear h; intro u20 h
  refine h.elim ?_; clear h; intro u21 h
  refine h.elim ?_; clear h; intro u22 h
  refine h.elim ?_; clear h; intro u23 h
  refine h.elim ?_; clear h; intro u24 h
  refine h.elim ?_; clear h; intro u25 h
  refine h.elim ?_; clear h; intro u26 h
  refine h.elim ?_; clear h; intro u27 h
  refine h.elim ?_; clear h; intro u28 h
  refine h.elim ?_; clear h; intro u29 h
  refine h.elim ?_; clear h; intro u30 h
  refine h.elim ?_; clear h; intro u31 h
  refine h.elim ?_; clear h; intro u32 h
  refine h.elim ?_; clear h; intro u33 h
  refine h.elim ?_; clear h; intro u34 h
  have hbb := h.1; replace h := h.2; subst hbb
  have hHeld := h.1; replace h := h.2
  have f0 := h.1; replace h := h.2
  have f1 := h.1; replace h := h.2
  have f2 := h.1; replace h := h.2
  have f3 := h.1; replace h := h.2
  have f4 := h.1; replace h := h.2
  have f5 := h.1; replace h := h.2
  have f6 := h.1; replace h := h.2
  have f7 := h.1; replace h := h.2
  have f8 := h.1; replace h := h.2
  have f17 := h.1; replace h := h.2
  have f18 := h.1; replace h := h.2
  have f19 := h; clear h
  have g0 := f0 (hA 0 (by omega))
  clear f0
  obtain rfl := g0
  have g1 := f1 (hA 1 (by omega))
  clear f1
  obtain rfl := g1
  have g2 := f2 (hA 2 (by omega))
  clear f2
  obtain rfl := g2
  have g3 := f3 (hA 3 (by omega))
  clear f3
  have g4 := f4 (hA 4 (by omega))
  clear f4
  obtain rfl := g4
  have g5 := f5 (hA 5 (by omega))
  clear f5
  obtain rfl := g5
  have g6 := f6 (hA 6 (by omega))
  clear f6
  obtain rfl := g6
  have g7 := f7 (hA 7 (by omega))
  clear f7
  obtain rfl := g7
  have g8 := f8 (hA 8 (by omega))
  clear f8
  obtain rfl := g8
  have g17 := f17 (hA 17 (by omega))
  clear f17
  obtain rfl := g17
  have g18 := f18 (hA 18 (by omega))
  clear f18
  have g19 := f19 (hA 19 (by omega))
  clear f19
  obtain rfl := g19
  clear hA
  exact ⟨rfl, _, _, _, _, _, _, _, _, _, _, _, _, _, _, _, _, _, _, _, _, rfl, hHeld, g18, rfl⟩
end Go.Proofs.YtjikkipdmonndaaDoor

/- Layer 14: a variable's row, and a table of variables as bytes. -/
namespace Go.Proofs.YtjikkipdmonndaaDoor
open Go.RowKit
set_option linter.unusedSimpArgs false
set_option linter.unusedVariables false
theorem tab_PutVar (x : Vr) (w : World) (hs : x.name.length ≤ 1000000) (w1 : I64 x.t) (w2 : I64 x.n) (w3 : I64 x.area) :
    Calls Tryd.prog 50 #[.agg #[.string ⟨x.name.toArray⟩, .int .i64 x.t, .int .i64 x.n, .int .i64 x.area, .int .i64 x.init]] w fun e w' => ∃ r, e = .returned (.tuple #[r, .bool (varOk x)]) ∧ (x.name.length ≤ 255 → w'.ownsRow (w.heap.size + 1) 5 1 r (varL x).length (bytesV (varL x))) ∧ Below w.heap.size w w' := by
  obtain ⟨i, hi, hz, hsize, hby⟩ : ∃ i, Tryd.prog.info? 5 = some i ∧ i.zero = some (.int .u8 0) ∧ i.size = 1 ∧ i.bytes = 1 := ⟨(Tryd.prog.info? 5).get!, by kernel_rfl, by kernel_rfl, by kernel_rfl, by kernel_rfl⟩
  have hsz : (⟨x.name.toArray⟩ : ByteArray).size = x.name.length := by simp [ByteArray.size]
  go_enter Tryd.func50, Tryd.ntmps50
  go_wp2
  obtain ⟨W0, hW0⟩ : ∃ W0, W0 = w.alloc (.cells #[.string ⟨x.name.toArray⟩, .int .i64 x.t, .int .i64 x.n, .int .i64 x.area, .int .i64 x.init] 41) := ⟨_, rfl⟩
  have bx := Boxed.new w [.string ⟨x.name.toArray⟩, .int .i64 x.t, .int .i64 x.n, .int .i64 x.area, .int .i64 x.init] 41 (Below.refl _ _)
  have C0 := bx 0 _ rfl
  have C1 := bx 1 _ rfl
  have C2 := bx 2 _ rfl
  have C3 := bx 3 _ rfl
  have C4 := bx 4 _ rfl
  clear bx
  rw [← hW0] at C0 C1 C2 C3 C4
  have hz0 : w.heap.size < W0.heap.size := by rw [hW0]; simp
  have hz1 : W0.heap.size = w.heap.size + 1 := by rw [hW0]; simp
  rw [← hW0]
  obtain ⟨T, hT⟩ : ∃ T, T = [UInt8.ofNat (cut255 ⟨x.name.toArray⟩).size] ++ (cut255 ⟨x.name.toArray⟩).data.toList := ⟨_, rfl⟩
  obtain ⟨M, hM⟩ : ∃ M, M = 1 + (cut255 ⟨x.name.toArray⟩).size := ⟨_, rfl⟩
  have hM1 : M ≤ 1000 := by
    rw [hM]; unfold cut255
    split
    · simp; omega
    · rename_i h; rw [hsz] at h ⊢; omega
  have hTM : T.length = M := by rw [hT, hM]; simp; omega
  have HTX := Lib.hid (fun W : World => (octet_Text (.slice none 0 0) [] ⟨x.name.toArray⟩ W (Or.inl ⟨none, 0, rfl, rfl, fun _ => rfl⟩) (by simp)).mono (R' := fun e w' => ∃ r, e = .returned r ∧ w'.ownsRow W.heap.size 5 1 r M (bytesV T) ∧ Below W.heap.size W w') (by rintro e w' ⟨r, h1, h2, h3⟩; exact ⟨r, h1, by rw [hT, hM]; simpa using h2, h3⟩))
  have HVL := Lib.hid (fun h : x.name.length ≤ 255 => (show T ++ [byteO x.t, byteO x.n, byteO x.area] ++ putL 8 x.init = varL x by
    rw [hT]; unfold varL cut255; rw [hsz, if_neg (by omega), hsz]; simp))
  clear hT hM
  refine Code.wp_mono ?_ (putVar_r1 W0 w.heap.size x i hi hz hsize hby w1 w2 w3 C0 C1 C2 C3 C4 hz0 M T hM1 HTX _ _ _ _ _ _ _ _ _ _ _ _ _ _ _ _ _ _ _ _ _ _ _ _ _ _ _ _ _ _ _ _ _ _)
  rintro e bb v ⟨rfl, u4, u5, u6, u7, u8, u9, u10, u11, u12, u13, u14, u15, u16, rfl, hH, g12⟩
  have hHs := hH.size
  have hl : (T ++ [byteO x.t, byteO x.n, byteO x.area]).length = M + 3 := by rw [List.length_append, hTM]; rfl
  have g12 : v.ownsRow W0.heap.size 5 1 u4 (T ++ [byteO x.t, byteO x.n, byteO x.area]).length (bytesV (T ++ [byteO x.t, byteO x.n, byteO x.area])) := by rw [hl]; simpa [bytesV] using g12
  have D0 := cellB hH C0 hz0
  have D1 := cellB hH C1 hz0
  have D2 := cellB hH C2 hz0
  have D3 := cellB hH C3 hz0
  have D4 := cellB hH C4 hz0
  have HB := Lib.hid (show Below w.heap.size w W0 by rw [hW0]; exact (Below.refl _ _).alloc (Nat.le_refl _) _)
  generalize hl2 : T ++ [byteO x.t, byteO x.n, byteO x.area] = T2 at *
  clear hW0 HTX C0 C1 C2 C3 C4
  by_cases h255 : x.name.length ≤ 255
  · have hok : varOk x = (fitB x.t && (fitB x.n && fitB x.area)) := by unfold varOk; rw [decide_eq_true h255]; rfl
    go_wp2
    refine Code.wp_mono ?_ (putVar_r2 v w.heap.size x i hi hz hsize hby w1 w2 w3 D0 D1 D2 D3 D4 (by omega) u4 T2 (by omega) _ g12 (eq_true (by omega)) _ _ _ _ _ _ _ _ _ _ _ _ _ _ _ _ _ _ _ _ _ _ _ _ _ _ _ _ _ _ _ _ _)
    rintro e bb v' ⟨rfl, u2, u3, u17, u18, u19, u20, u21, u22, u23, u24, u25, u26, u27, u28, u29, u30, u31, u32, u33, u34, rfl, hH2, g18, rfl⟩
    go_wp2_with fail
    go_returns
    refine ⟨_, by rw [hok]; rfl, fun _ => ?_, HB.out.trans ((hH.trans (hH2.mono hHs)).mono (by omega))⟩
    have hv := HVL.out h255
    rw [← hv, List.length_append, putL_len, ← hz1]
    exact own_low g18 hHs
  · have hok : varOk x = false := by unfold varOk; rw [decide_eq_false h255]; rfl
    go_wp2
    refine Code.wp_mono ?_ (putVar_r2n v w.heap.size x i hi hz hsize hby w1 w2 w3 D0 D1 D2 D3 D4 (by omega) u4 T2 (by omega) _ g12 (eq_false (by omega)) _ _ _ _ _ _ _ _ _ _ _ _ _ _ _ _ _ _ _ _ _ _ _ _ _ _ _ _ _ _ _ _ _)
    rintro e bb v' ⟨rfl, u2, u3, u17, u18, u19, u20, u21, u22, u23, u24, u25, u26, u27, u28, u29, u30, u31, u32, u33, u34, rfl, hH2, g18, rfl⟩
    go_wp2_with fail
    go_returns
    exact ⟨_, by rw [hok]; rfl, fun h => absurd h h255, HB.out.trans ((hH.trans (hH2.mono hHs)).mono (by omega))⟩
set_option maxRecDepth 100000 in
set_option maxHeartbeats 4000000 in
theorem tab_put_vars (v : Value) (L : List Vr) (w : World) (hv : RowR 5 varR w v L) (hn : ∀ x ∈ L, x.name.length ≤ 1000000) (hlen : L.length ≤ 64) :
    Calls Tryd.prog 49 #[v, .int .i64 64, .func (.func 50) #[] #[]] w fun e w' => ∃ r, e = .returned (.tuple #[r, .bool (L.all varOk)]) ∧ (L.all varOk = true → w'.ownsRow w.heap.size 5 1 r (2 + (varsL L).length) (bytesV (putL 2 L.length ++ varsL L))) ∧ (L.all varOk = false → r = .slice none 0 0) ∧ Below w.heap.size w w' := by
  obtain ⟨i, hi, hz, hsize, hby⟩ : ∃ i, Tryd.prog.info? 5 = some i ∧ i.zero = some (.int .u8 0) ∧ i.size = 1 ∧ i.bytes = 1 := ⟨(Tryd.prog.info? 5).get!, by kernel_rfl, by kernel_rfl, by kernel_rfl, by kernel_rfl⟩
  obtain ⟨sa, ca, rfl⟩ := row_get hv
  have HY := Lib.hid (show L.take L.length = L from List.take_length)
  have cp := @cell_past
  obtain ⟨n, hN⟩ : ∃ n, L.length = n := ⟨_, rfl⟩
  rw [hN] at hv hlen HY ⊢
  have q0 : (64 < (n : Int)) = False := eq_false (by omega)
  go_enter Tryd.func49, Tryd.ntmps49
  go_wp2_with fail
  refine (octet_Put (.slice none 0 0) [] 2 (n : Int) _ (Or.inl ⟨none, 0, rfl, rfl, fun _ => rfl⟩) (by simp)).mono ?_; rintro e w1 ⟨r1, rfl, hO1, hb1⟩
  have hO1 : w1.ownsRow w.heap.size 5 1 r1 2 (bytesV (putL 2 n)) := hO1
  go_wp2_with fail
  go_loopw [8, 22] (fun o j wr => ∃ k : Nat, k ≤ n ∧ j = .int .i64 k ∧ Hid ((L.take k).all varOk = true) ∧ Hid (wr.ownsRow w.heap.size 5 1 o (2 + (varsL (L.take k)).length) (bytesV (putL 2 n ++ varsL (L.take k)))) ∧ Below w.heap.size w wr) (fun _ j _ => n - (intOf j).toNat)
  case atStart => exact ⟨0, by omega, rfl, Lib.hid (by simp), Lib.hid (by simpa [varsL] using hO1), hb1⟩
  case round =>
    obtain ⟨k, hk, rfl, hall, hO, hB⟩ := hrel
    have hz' := hB.size
    by_cases hlt : k < n
    · obtain ⟨x, hx⟩ : ∃ x, L[k]? = some x := get_some (by omega)
      obtain ⟨b, off, rfl, hbw, hc⟩ := var_at hv (k := k) (by omega)
      obtain ⟨c0, c1, c2, c3, c4, _, w1, w2, w3, _⟩ := hc k x hx
      have c0 := (hB.cell (p := ⟨b, off + k * 5, none⟩) hbw).trans c0
      have c1 := (hB.cell (p := ⟨b, off + k * 5 + 1, none⟩) hbw).trans c1
      have c2 := (hB.cell (p := ⟨b, off + k * 5 + 2, none⟩) hbw).trans c2
      have c3 := (hB.cell (p := ⟨b, off + k * 5 + 3, none⟩) hbw).trans c3
      have c4 := (hB.cell (p := ⟨b, off + k * 5 + 4, none⟩) hbw).trans c4
      clear hc
      have hn1 := hn x (List.mem_of_getElem? hx)
      have hts := Lib.hid (take_snoc hx)
      have hmem := Lib.hid (List.mem_of_getElem? hx)
      have hno := Lib.hid (fun h : varOk x = false => (show L.all varOk = false from List.all_eq_false.2 ⟨x, hmem.out, by simp [h]⟩))
      have hlb := Lib.hid (fun h : varOk x = true => (show x.name.length ≤ 255 by unfold varOk at h; simp at h; exact h.1))
      have hbl : (varsL (L.take k)).length ≤ 1000000 := by have := varsL_len (L.take k) hall.out; rw [List.length_take] at this; omega
      have HE := Lib.hid (tab_PutVar x (wr.alloc (.cells #[.string ⟨x.name.toArray⟩, .int .i64 x.t, .int .i64 x.n, .int .i64 x.area, .int .i64 x.init] 41)) hn1 w1 w2 w3)
      have hz2 : (wr.alloc (.cells #[.string ⟨x.name.toArray⟩, .int .i64 x.t, .int .i64 x.n, .int .i64 x.area, .int .i64 x.init] 41)).heap.size = wr.heap.size + 1 := by simp
      clear hx hmem hn1 hn
      cases hr : varOk x
      · have hA := Lib.hid (hno.out hr)
        rw [hr] at HE
        clear hno hlb hr
        go_wp2_with fail
        refine HE.out.mono ?_; rintro e w2 ⟨r2, rfl, hr2, hb2⟩
        have hB2 : Below w.heap.size w w2 := (hB.alloc hz' _).trans (hb2.mono (by rw [hz2]; omega))
        clear hr2
        go_wp2_with fail
        go_returns
        exact ⟨_, by rw [hA.out]; rfl, fun h => (by rw [hA.out] at h; cases h), fun _ => rfl, hB2⟩
      · have hl255 := hlb.out hr
        rw [hr] at HE
        go_wp2_with fail
        refine HE.out.mono ?_; rintro e w2 ⟨r2, rfl, hr2, hb2⟩
        have hO2 := Lib.hid (hr2 hl255)
        have hB2 : Below w.heap.size w w2 := (hB.alloc hz' _).trans (hb2.mono (by rw [hz2]; omega))
        have hbn : Below wr.heap.size wr w2 := ((Below.refl _ _).alloc (Nat.le_refl _) _).trans (hb2.mono (by rw [hz2]; omega))
        have hO3 := Lib.hid (owns_below hO.out hbn)
        have hz3 := hB2.size
        have hl257 := varL_len x
        go_wp2_with (first | (at_builtin; go_loud (refine wpList_append_src rfl (.tmp 34) (.tmp 35) 30 rfl w.heap.size 5 i (.int .u8 0) 1 1 Tryd.underlying30 hi hz hsize hby rfl (by omega) _ (2 + (varsL (L.take k)).length) _ rfl hO3.out _ (varL x).length _ rfl (src_own hO2.out) (by simp [bytesV]) (bytesV_one _) (by unfold maxLen; omega) (by omega) hz3 ?_; intro v3 w3 hO4 hG3; have hB3 := Lib.hid (grown3 hB2 hz3 hO3.out hG3); have HO4 := Lib.hid hO4; clear hO4 hG3)) | fail)
        go_roundw
        case rel => exact ⟨k + 1, by omega, by simp, Lib.hid (by rw [hts.out, List.all_append, hall.out]; simp [hr]), Lib.hid (own_eq2 HO4.out (by rw [hts.out, varsL_snoc, List.length_append]; omega) (by rw [hts.out, varsL_snoc]; simp [bytesV])), hB3.out⟩
        case measure => first | (simp [intOf]; done) | (simp [intOf]; omega)
    · obtain rfl : k = n := by omega
      have hA := Lib.hid (show L.all varOk = true by have := hall.out; rwa [HY.out] at this)
      go_wp2_with fail
      go_returns
      exact ⟨_, by rw [hA.out]; rfl, fun _ => (by have := hO.out; rwa [HY.out] at this), fun h => (by rw [hA.out] at h; cases h), hB⟩
theorem tab_putV_long (v : Value) (L : List Vr) (w : World) (hv : RowR 5 varR w v L) (hlen : 64 < L.length) :
    Calls Tryd.prog 49 #[v, .int .i64 64, .func (.func 50) #[] #[]] w fun e w' => e = .returned (.tuple #[.slice none 0 0, .bool false]) ∧ Below w.heap.size w w' := by
  have hl := hv.len
  obtain ⟨sa, ca, rfl⟩ := row_get hv
  obtain ⟨n, hN⟩ : ∃ n, L.length = n := ⟨_, rfl⟩
  rw [hN] at hv hlen hl ⊢
  have q0 : (64 < (n : Int)) = True := eq_true (by omega)
  go_enter Tryd.func49, Tryd.ntmps49
  go_wp2_with fail
  go_returns
  exact ⟨rfl, by (repeat' (first | (with_reducible exact Below.refl _ _) | (with_reducible assumption) | (with_reducible refine below_drewN ?_ _) | (with_reducible refine Below.alloc ?_ ?_ _) | (with_reducible refine Below.drew ?_) | (with_reducible refine Below.setCell ?_ ?_ _) | go_size))⟩
/-- what PutBlocks tells -/
def PutsV (w : World) (L : List Vr) (e : Ending) (w' : World) : Prop :=
  ∃ r, e = .returned (.tuple #[r, .bool (okVs L)]) ∧ (okVs L = true → w'.ownsRow w.heap.size 5 1 r (2 + (varsL L).length) (bytesV (putL 2 L.length ++ varsL L))) ∧ (okVs L = false → r = .slice none 0 0) ∧ Below w.heap.size w w'
theorem tab_putV_any (v : Value) (L : List Vr) (w : World) (hv : RowR 5 varR w v L) (hn : ∀ x ∈ L, x.name.length ≤ 1000000) :
    Calls Tryd.prog 49 #[v, .int .i64 64, .func (.func 50) #[] #[]] w (PutsV w L) := by
  by_cases h : L.length ≤ 64
  · have ho : okVs L = L.all varOk := by unfold okVs; rw [decide_eq_true h]; rfl
    refine (tab_put_vars v L w hv hn h).mono ?_
    rintro e w' ⟨r, rfl, h1, h2, h3⟩
    exact ⟨r, by rw [ho], by rw [ho]; exact h1, by rw [ho]; exact h2, h3⟩
  · have ho : okVs L = false := by unfold okVs; rw [decide_eq_false h]; rfl
    refine (tab_putV_long v L w hv (by omega)).mono ?_
    rintro e w' ⟨rfl, h3⟩
    exact ⟨_, by rw [ho], fun h => (by rw [ho] at h; cases h), fun _ => rfl, h3⟩
theorem tab_PutVars (v : Value) (L : List Vr) (w : World) (hv : RowR 5 varR w v L) (hn : ∀ x ∈ L, x.name.length ≤ 1000000) :
    Calls Tryd.prog 18 #[v] w (PutsV w L) := by
  have HP := Lib.hid (tab_putV_any v L w hv hn)
  obtain ⟨sa, ca, rfl⟩ := row_get hv
  clear hv
  go_enter Tryd.func18, Tryd.ntmps18
  go_wp2_with fail
  refine HP.out.mono ?_; rintro e w1 ⟨r, rfl, h1, h2, h3⟩
  have H1 := Lib.hid h1
  have H2 := Lib.hid h2
  clear h1 h2 HP
  go_wp2_with fail
  go_returns
  exact ⟨r, rfl, H1.out, H2.out, h3⟩
end Go.Proofs.YtjikkipdmonndaaDoor

/- Layer 14: PutBlocks. -/
namespace Go.Proofs.YtjikkipdmonndaaDoor
open Go.RowKit
set_option linter.unusedSimpArgs false
set_option linter.unusedVariables false
theorem tab_put_long (v : Value) (L : List Bk) (w : World) (hv : RowR 2 blkR w v L) (hlen : 32 < L.length) :
    Calls Tryd.prog 52 #[v, .int .i64 32, .func (.func 53) #[] #[]] w fun e w' => e = .returned (.tuple #[.slice none 0 0, .bool false]) ∧ Below w.heap.size w w' := by
  have hl := hv.len
  obtain ⟨sa, ca, rfl⟩ := row_get hv
  obtain ⟨n, hN⟩ : ∃ n, L.length = n := ⟨_, rfl⟩
  rw [hN] at hv hlen hl ⊢
  have q0 : (32 < (n : Int)) = True := eq_true (by omega)
  go_enter Tryd.func52, Tryd.ntmps52
  go_wp2_with fail
  go_returns
  exact ⟨rfl, by (repeat' (first | (with_reducible exact Below.refl _ _) | (with_reducible assumption) | (with_reducible refine below_drewN ?_ _) | (with_reducible refine Below.alloc ?_ ?_ _) | (with_reducible refine Below.drew ?_) | (with_reducible refine Below.setCell ?_ ?_ _) | go_size))⟩
/-- what PutBlocks tells -/
def PutsB (w : World) (L : List Bk) (e : Ending) (w' : World) : Prop :=
  ∃ r, e = .returned (.tuple #[r, .bool (okBs L)]) ∧ (okBs L = true → w'.ownsRow w.heap.size 5 1 r (2 + (blksL L).length) (bytesV (putL 2 L.length ++ blksL L))) ∧ (okBs L = false → r = .slice none 0 0) ∧ Below w.heap.size w w'
theorem tab_put_any (v : Value) (L : List Bk) (w : World) (hv : RowR 2 blkR w v L) (hn : ∀ x ∈ L, x.name.length ≤ 1000000) :
    Calls Tryd.prog 52 #[v, .int .i64 32, .func (.func 53) #[] #[]] w (PutsB w L) := by
  by_cases h : L.length ≤ 32
  · have ho : okBs L = L.all blkOk := by unfold okBs; rw [decide_eq_true h]; rfl
    refine (tab_put_blocks v L w hv hn h).mono ?_
    rintro e w' ⟨r, rfl, h1, h2, h3⟩
    exact ⟨r, by rw [ho], by rw [ho]; exact h1, by rw [ho]; exact h2, h3⟩
  · have ho : okBs L = false := by unfold okBs; rw [decide_eq_false h]; rfl
    refine (tab_put_long v L w hv (by omega)).mono ?_
    rintro e w' ⟨rfl, h3⟩
    exact ⟨_, by rw [ho], fun h => (by rw [ho] at h; cases h), fun _ => rfl, h3⟩
theorem tab_PutBlocks (v : Value) (L : List Bk) (w : World) (hv : RowR 2 blkR w v L) (hn : ∀ x ∈ L, x.name.length ≤ 1000000) :
    Calls Tryd.prog 19 #[v] w (PutsB w L) := by
  have HP := Lib.hid (tab_put_any v L w hv hn)
  obtain ⟨sa, ca, rfl⟩ := row_get hv
  clear hv
  go_enter Tryd.func19, Tryd.ntmps19
  go_wp2_with fail
  refine HP.out.mono ?_; rintro e w1 ⟨r, rfl, h1, h2, h3⟩
  have H1 := Lib.hid h1
  have H2 := Lib.hid h2
  clear h1 h2 HP
  go_wp2_with fail
  go_returns
  exact ⟨r, rfl, H1.out, H2.out, h3⟩
end Go.Proofs.YtjikkipdmonndaaDoor

/- Layer 2, plain mathematics: four steps bit by bit are one step by the table. -/
namespace Go.Proofs.YtjikkipdmonndaaDoor
def bsP : Nat := 3988292384
def bs (s : Nat) : Nat := if s % 2 = 1 then s / 2 ^^^ bsP else s / 2
def bsN : Nat → Nat → Nat
  | 0, s => s
  | n + 1, s => bs (bsN n s)
def bsT (i : Nat) : Nat := bsN 4 i
theorem bsP_lt : bsP < 2 ^ 32 := by decide
theorem bs_lt {s : Nat} (h : s < 4294967296) : bs s < 4294967296 := by
  unfold bs
  split
  · exact Nat.xor_lt_two_pow (n := 32) (by omega) bsP_lt
  · omega
theorem bsN_lt {s : Nat} (h : s < 4294967296) : ∀ n, bsN n s < 4294967296
  | 0 => h
  | n + 1 => bs_lt (bsN_lt h n)
theorem bsT_lt {s : Nat} (h : s < 4294967296) : bsT s < 4294967296 := bsN_lt h 4
theorem xor_mod_two (a b : Nat) : (a ^^^ b) % 2 = (a % 2 + b % 2) % 2 := by
  have := Nat.testBit_xor a b 0
  simp only [Nat.testBit_zero] at this
  have ha : a % 2 = 0 ∨ a % 2 = 1 := by omega
  have hb : b % 2 = 0 ∨ b % 2 = 1 := by omega
  have hx : (a ^^^ b) % 2 = 0 ∨ (a ^^^ b) % 2 = 1 := by omega
  rcases ha with ha | ha <;> rcases hb with hb | hb <;> rcases hx with hx | hx <;> simp [ha, hb, hx] at this ⊢
theorem bs_xor (a b : Nat) : bs (a ^^^ b) = bs a ^^^ bs b := by
  have hd : (a ^^^ b) / 2 = a / 2 ^^^ b / 2 := Nat.xor_div_two
  have hm := xor_mod_two a b
  unfold bs
  have ha : a % 2 = 0 ∨ a % 2 = 1 := by omega
  have hb : b % 2 = 0 ∨ b % 2 = 1 := by omega
  rcases ha with ha | ha <;> rcases hb with hb | hb <;> simp only [ha, hb, hm, hd] <;> simp
  · rw [Nat.xor_assoc]
  · rw [Nat.xor_assoc, Nat.xor_comm (b / 2) bsP, ← Nat.xor_assoc]
  · rw [Nat.xor_assoc, Nat.xor_comm bsP, Nat.xor_assoc, Nat.xor_self, Nat.xor_zero]
theorem bsN_xor (a b : Nat) : ∀ n, bsN n (a ^^^ b) = bsN n a ^^^ bsN n b
  | 0 => rfl
  | n + 1 => by show bs _ = bs _ ^^^ bs _; rw [bsN_xor a b n, bs_xor]
theorem bs_double (a : Nat) : bs (2 * a) = a := by unfold bs; rw [if_neg (by omega)]; omega
theorem split16 (s : Nat) : s = 16 * (s / 16) ^^^ s % 16 := by
  apply Nat.eq_of_testBit_eq
  intro i
  rw [Nat.testBit_xor]
  have h1 : (16 * (s / 16)).testBit i = (decide (4 ≤ i) && s.testBit i) := by
    rw [show 16 * (s / 16) = 2 ^ 4 * (s / 2 ^ 4) by omega, Nat.testBit_two_pow_mul, Nat.testBit_div_two_pow]
    by_cases h : 4 ≤ i
    · simp [h, show i - 4 + 4 = i by omega]
    · simp [h]
  have h2 : (s % 16).testBit i = (decide (i < 4) && s.testBit i) := by
    rw [show s % 16 = s % 2 ^ 4 by rfl, Nat.testBit_mod_two_pow]
  rw [h1, h2]
  by_cases h : 4 ≤ i
  · simp [h, show ¬ i < 4 by omega]
  · simp [h, show i < 4 by omega]
theorem bsN_four (s : Nat) : bsN 4 s = s / 16 ^^^ bsT (s % 16) := by
  have h := congrArg (bsN 4) (split16 s)
  rw [h, bsN_xor]
  have : bsN 4 (16 * (s / 16)) = s / 16 := by
    show bs (bs (bs (bs (16 * (s / 16))))) = _
    rw [show 16 * (s / 16) = 2 * (8 * (s / 16)) by omega, bs_double, show 8 * (s / 16) = 2 * (4 * (s / 16)) by omega, bs_double,
      show 4 * (s / 16) = 2 * (2 * (s / 16)) by omega, bs_double, bs_double]
  rw [this]; rfl
/-- what one byte makes of a state -/
def crcB (s c : Nat) : Nat := bsN 8 (s ^^^ c)
theorem crcB_two (s c : Nat) : crcB s c = (let x := s ^^^ c; let z := x / 16 ^^^ bsT (x % 16); z / 16 ^^^ bsT (z % 16)) := by
  show bsN 4 (bsN 4 (s ^^^ c)) = _
  rw [bsN_four (s ^^^ c), bsN_four]
theorem and15 (x : Nat) : x &&& 15 = x % 16 := Nat.and_two_pow_sub_one_eq_mod x 4
theorem and1 (x : Nat) : x &&& 1 = x % 2 := Nat.and_one_is_mod x
theorem crcB_lt {s c : Nat} (h : s < 4294967296) (hc : c < 256) : crcB s c < 4294967296 :=
  bsN_lt (Nat.xor_lt_two_pow (n := 32) h (by omega)) 8
def crcO (s : Nat) (l : List UInt8) : Nat := l.foldl (fun s c => crcB s c.toNat) s
theorem crcO_lt (l : List UInt8) : ∀ {s : Nat}, s < 4294967296 → crcO s l < 4294967296 := by
  induction l with
  | nil => intro s h; exact h
  | cons c l ih => intro s h; exact ih (crcB_lt h c.toNat_lt)
theorem crcO_append (s : Nat) (a b : List UInt8) : crcO s (a ++ b) = crcO (crcO s a) b := List.foldl_append ..
/-- a byte is told from another one -/
theorem bs_inj {a b : Nat} (ha : a < 4294967296) (hb : b < 4294967296) (h : bs a = bs b) : a = b := by
  have key : ∀ d, d < 4294967296 → bs d = 0 → d = 0 := by
    intro d hd h0
    unfold bs at h0
    split at h0
    · have h1 : d / 2 = bsP := by
        have := congrArg (· ^^^ bsP) h0
        simpa [Nat.xor_assoc] using this
      unfold bsP at h1; omega
    · omega
  have h0 : bs (a ^^^ b) = 0 := by rw [bs_xor, h, Nat.xor_self]
  have := key _ (Nat.xor_lt_two_pow (n := 32) ha hb) h0
  have h1 := congrArg (· ^^^ b) this
  simpa [Nat.xor_assoc] using h1
theorem bsN_inj {a b : Nat} (ha : a < 4294967296) (hb : b < 4294967296) : ∀ n, bsN n a = bsN n b → a = b
  | 0, h => h
  | n + 1, h => bsN_inj ha hb n (bs_inj (bsN_lt ha n) (bsN_lt hb n) h)
theorem xor_inj {a b c : Nat} (h : a ^^^ c = b ^^^ c) : a = b := by
  have h1 := congrArg (· ^^^ c) h
  simpa [Nat.xor_assoc] using h1
theorem crcB_inj {a b c : Nat} (ha : a < 4294967296) (hb : b < 4294967296) (hc : c < 256) (h : crcB a c = crcB b c) : a = b :=
  xor_inj (bsN_inj (Nat.xor_lt_two_pow (n := 32) ha (by omega)) (Nat.xor_lt_two_pow (n := 32) hb (by omega)) 8 h)
theorem crcO_inj (l : List UInt8) : ∀ {a b : Nat}, a < 4294967296 → b < 4294967296 → crcO a l = crcO b l → a = b := by
  induction l with
  | nil => intro a b _ _ h; exact h
  | cons c l ih => intro a b ha hb h; exact crcB_inj ha hb c.toNat_lt (ih (crcB_lt ha c.toNat_lt) (crcB_lt hb c.toNat_lt) h)
theorem crcB_inj' {s c d : Nat} (hs : s < 4294967296) (hc : c < 256) (hd : d < 256) (h : crcB s c = crcB s d) : c = d := by
  have := bsN_inj (Nat.xor_lt_two_pow (n := 32) hs (by omega)) (Nat.xor_lt_two_pow (n := 32) hs (by omega)) 8 h
  rw [Nat.xor_comm s c, Nat.xor_comm s d] at this
  exact xor_inj this
/-- OF TWO TEXTS THAT DIFFER IN ONE BYTE THE SUMS DIFFER. -/
theorem crcO_set (l : List UInt8) (at_ : Nat) (h : at_ < l.length) (c : UInt8) (hc : l[at_] ≠ c) {s : Nat} (hs : s < 4294967296) : crcO s (l.set at_ c) ≠ crcO s l := by
  intro he
  have e1 : l.set at_ c = l.take at_ ++ c :: l.drop (at_ + 1) := by
    rw [List.set_eq_take_append_cons_drop, if_pos h]
  have e2 : l = l.take at_ ++ l[at_] :: l.drop (at_ + 1) := by
    rw [List.getElem_cons_drop, List.take_append_drop]
  rw [e1, e2] at he
  simp only [crcO_append] at he
  have hq := crcO_lt (l.take at_) hs
  simp only [← e2] at he
  have he' : crcO (crcB (crcO s (l.take at_)) c.toNat) (l.drop (at_ + 1)) = crcO (crcB (crcO s (l.take at_)) l[at_].toNat) (l.drop (at_ + 1)) := he
  have h1 := crcO_inj _ (crcB_lt hq c.toNat_lt) (crcB_lt hq l[at_].toNat_lt) he'
  have h2 := crcB_inj' hq c.toNat_lt l[at_].toNat_lt h1
  exact hc (UInt8.toNat_inj.1 h2.symm)
end Go.Proofs.YtjikkipdmonndaaDoor

/- Layer 2: contracts of crc and of its answer. -/
namespace Go.Proofs.YtjikkipdmonndaaDoor
open Go.RowKit
theorem ret_u32 {a b : Int} (h : a = b) : Ending.returned (.int .u32 a) = .returned (.int .u32 b) := by rw [h]
theorem cx (a b : Nat) (ha : a < 4294967296) (hb : b < 4294967296) : bits .xor .u32 (a : Int) (b : Int) = ((a ^^^ b : Nat) : Int) := u32_xor_nat a b ha hb
/-- the table's cells -/
def TabAt (w : World) (b : Nat) : Prop := ∀ i, i < 16 → w.cell? ⟨b, i, none⟩ = some (.int .u32 ((bsT i : Nat) : Int))
theorem crc_step (b : Nat) (s c : Nat) (hs : s < 4294967296) (hc : c < 256) (w : World) (ht : TabAt w b) :
    Calls Tryd.prog 89 #[.pointer (some ⟨b, 0, none⟩), .int .u32 (s : Int), .int .u8 (c : Int)] w fun e w' => e = .returned (.int .u32 ((crcB s c : Nat) : Int)) ∧ w = w' := by
  have hx : s ^^^ c < 4294967296 := Nat.xor_lt_two_pow (n := 32) hs (by omega)
  have e1 := cx s c hs (by omega)
  obtain ⟨x, hxe⟩ : ∃ x, s ^^^ c = x := ⟨_, rfl⟩
  rw [hxe] at hx e1
  have e2 : bits .and .u32 (x : Int) 15 = ((x % 16 : Nat) : Int) := by have := u32_and_nat x 15 hx (by omega); rw [and15] at this; exact this
  obtain ⟨y, hye⟩ : ∃ y, x % 16 = y := ⟨_, rfl⟩
  have hy : y < 16 := by omega
  rw [hye] at e2
  have hcy := ht y hy
  have hty := bsT_lt (s := y) (by omega)
  have e3 := cx (x / 16) (bsT y) (by omega) hty
  have hz : x / 16 ^^^ bsT y < 4294967296 := Nat.xor_lt_two_pow (n := 32) (by omega) hty
  obtain ⟨z, hze⟩ : ∃ z, x / 16 ^^^ bsT y = z := ⟨_, rfl⟩
  rw [hze] at e3 hz
  have e4 : bits .and .u32 (z : Int) 15 = ((z % 16 : Nat) : Int) := by have := u32_and_nat z 15 hz (by omega); rw [and15] at this; exact this
  obtain ⟨u, hue⟩ : ∃ u, z % 16 = u := ⟨_, rfl⟩
  have hu : u < 16 := by omega
  rw [hue] at e4
  have hcu := ht u hu
  have htu := bsT_lt (s := u) (by omega)
  have e5 := cx (z / 16) (bsT u) (by omega) htu
  have hfin : crcB s c = z / 16 ^^^ bsT u := by rw [crcB_two]; simp only []; rw [hxe, hye, hze, hue]
  have Hfin := Lib.hid hfin
  clear hfin hxe hye hze hue hty htu ht
  have e3' : bits .xor .u32 ((x : Int) / 16) (bsT y : Int) = (z : Int) := e3
  have e5' : bits .xor .u32 ((z : Int) / 16) (bsT u : Int) = ((z / 16 ^^^ bsT u : Nat) : Int) := e5
  clear e3 e5
  generalize z / 16 ^^^ bsT u = r at *
  go_enter Tryd.func89, Tryd.ntmps89
  go_wp2
  go_ret
  exact ⟨ret_u32 (by rw [Hfin.out]), rfl⟩
set_option maxHeartbeats 2000000 in
theorem crc_steps (w : World) : Calls Tryd.prog 88 #[] w fun e w' => e = .returned (.agg #[.int .u32 (bsT 0 : Nat), .int .u32 (bsT 1 : Nat), .int .u32 (bsT 2 : Nat), .int .u32 (bsT 3 : Nat),
    .int .u32 (bsT 4 : Nat), .int .u32 (bsT 5 : Nat), .int .u32 (bsT 6 : Nat), .int .u32 (bsT 7 : Nat), .int .u32 (bsT 8 : Nat), .int .u32 (bsT 9 : Nat), .int .u32 (bsT 10 : Nat), .int .u32 (bsT 11 : Nat),
    .int .u32 (bsT 12 : Nat), .int .u32 (bsT 13 : Nat), .int .u32 (bsT 14 : Nat), .int .u32 (bsT 15 : Nat)]) ∧ Below w.heap.size w w' := by
  go_enter Tryd.func88, Tryd.ntmps88
  go_wp2
  refine wp_loop_rounds 17 ?_
  rw [rounds_succ]
  go_wp2
  go_loop [3, 9] (fun t j => ∃ k : Nat, k ≤ 4 ∧ j = .int .i64 k ∧ t = .int .u32 ((bsN k 0 : Nat) : Int)) (fun _ j => 4 - (intOf j).toNat)
  case atStart => exact ⟨0, by omega, rfl, rfl⟩
  case round =>
    obtain ⟨k, hk, rfl, rfl⟩ := hrel
    by_cases hlt : k < 4
    · have hs := bsN_lt (s := 0) (by omega) k
      obtain ⟨s, hse⟩ : ∃ s, bsN k 0 = s := ⟨_, rfl⟩
      rw [hse] at hs ⊢
      have Hse := Lib.hid hse
      clear hse
      have e1 : bits .and .u32 (s : Int) 1 = ((s % 2 : Nat) : Int) := by have := u32_and_nat s 1 hs (by omega); rw [and1] at this; exact this
      have e2 := cx (s / 2) bsP (by omega) bsP_lt
      have e2' : bits .xor .u32 ((s : Int) / 2) 3988292384 = ((s / 2 ^^^ bsP : Nat) : Int) := e2
      clear e2
      by_cases hp : s % 2 = 1
      · rw [hp] at e1
        have Hp := Lib.hid hp
        clear hp
        go_wp2
        go_round
        case rel => exact ⟨k + 1, by omega, by go_num, by show _ = Value.int .u32 ((bs (bsN k 0) : Nat) : Int); rw [Hse.out]; unfold bs; rw [if_pos Hp.out]⟩
        case measure => simp [intOf]; omega
      · rw [show s % 2 = 0 by omega] at e1
        have Hp := Lib.hid hp
        clear hp
        go_wp2
        go_round
        case rel => exact ⟨k + 1, by omega, by go_num, by show _ = Value.int .u32 ((bs (bsN k 0) : Nat) : Int); rw [Hse.out]; unfold bs; rw [if_neg Hp.out]; rfl⟩
        case measure => simp [intOf]; omega
    obtain rfl : k = 4 := by omega
    clear hk hlt
    have hT : bsN 4 0 = bsT 0 := rfl
    rw [hT]
    clear hT
    go_wp2
    rw [rounds_succ]
    go_wp2
    go_loop [3, 9] (fun t j => ∃ k : Nat, k ≤ 4 ∧ j = .int .i64 k ∧ t = .int .u32 ((bsN k 1 : Nat) : Int)) (fun _ j => 4 - (intOf j).toNat)
    case atStart => exact ⟨0, by omega, rfl, rfl⟩
    case round =>
      obtain ⟨k, hk, rfl, rfl⟩ := hrel
      by_cases hlt : k < 4
      · have hs := bsN_lt (s := 1) (by omega) k
        obtain ⟨s, hse⟩ : ∃ s, bsN k 1 = s := ⟨_, rfl⟩
        rw [hse] at hs ⊢
        have Hse := Lib.hid hse
        clear hse
        have e1 : bits .and .u32 (s : Int) 1 = ((s % 2 : Nat) : Int) := by have := u32_and_nat s 1 hs (by omega); rw [and1] at this; exact this
        have e2 := cx (s / 2) bsP (by omega) bsP_lt
        have e2' : bits .xor .u32 ((s : Int) / 2) 3988292384 = ((s / 2 ^^^ bsP : Nat) : Int) := e2
        clear e2
        by_cases hp : s % 2 = 1
        · rw [hp] at e1
          have Hp := Lib.hid hp
          clear hp
          go_wp2
          go_round
          case rel => exact ⟨k + 1, by omega, by go_num, by show _ = Value.int .u32 ((bs (bsN k 1) : Nat) : Int); rw [Hse.out]; unfold bs; rw [if_pos Hp.out]⟩
          case measure => simp [intOf]; omega
        · rw [show s % 2 = 0 by omega] at e1
          have Hp := Lib.hid hp
          clear hp
          go_wp2
          go_round
          case rel => exact ⟨k + 1, by omega, by go_num, by show _ = Value.int .u32 ((bs (bsN k 1) : Nat) : Int); rw [Hse.out]; unfold bs; rw [if_neg Hp.out]; rfl⟩
          case measure => simp [intOf]; omega
      obtain rfl : k = 4 := by omega
      clear hk hlt
      have hT : bsN 4 1 = bsT 1 := rfl
      rw [hT]
      clear hT
      go_wp2
      rw [rounds_succ]
      go_wp2
      go_loop [3, 9] (fun t j => ∃ k : Nat, k ≤ 4 ∧ j = .int .i64 k ∧ t = .int .u32 ((bsN k 2 : Nat) : Int)) (fun _ j => 4 - (intOf j).toNat)
      case atStart => exact ⟨0, by omega, rfl, rfl⟩
      case round =>
        obtain ⟨k, hk, rfl, rfl⟩ := hrel
        by_cases hlt : k < 4
        · have hs := bsN_lt (s := 2) (by omega) k
          obtain ⟨s, hse⟩ : ∃ s, bsN k 2 = s := ⟨_, rfl⟩
          rw [hse] at hs ⊢
          have Hse := Lib.hid hse
          clear hse
          have e1 : bits .and .u32 (s : Int) 1 = ((s % 2 : Nat) : Int) := by have := u32_and_nat s 1 hs (by omega); rw [and1] at this; exact this
          have e2 := cx (s / 2) bsP (by omega) bsP_lt
          have e2' : bits .xor .u32 ((s : Int) / 2) 3988292384 = ((s / 2 ^^^ bsP : Nat) : Int) := e2
          clear e2
          by_cases hp : s % 2 = 1
          · rw [hp] at e1
            have Hp := Lib.hid hp
            clear hp
            go_wp2
            go_round
            case rel => exact ⟨k + 1, by omega, by go_num, by show _ = Value.int .u32 ((bs (bsN k 2) : Nat) : Int); rw [Hse.out]; unfold bs; rw [if_pos Hp.out]⟩
            case measure => simp [intOf]; omega
          · rw [show s % 2 = 0 by omega] at e1
            have Hp := Lib.hid hp
            clear hp
            go_wp2
            go_round
            case rel => exact ⟨k + 1, by omega, by go_num, by show _ = Value.int .u32 ((bs (bsN k 2) : Nat) : Int); rw [Hse.out]; unfold bs; rw [if_neg Hp.out]; rfl⟩
            case measure => simp [intOf]; omega
        obtain rfl : k = 4 := by omega
        clear hk hlt
        have hT : bsN 4 2 = bsT 2 := rfl
        rw [hT]
        clear hT
        go_wp2
        rw [rounds_succ]
        go_wp2
        go_loop [3, 9] (fun t j => ∃ k : Nat, k ≤ 4 ∧ j = .int .i64 k ∧ t = .int .u32 ((bsN k 3 : Nat) : Int)) (fun _ j => 4 - (intOf j).toNat)
        case atStart => exact ⟨0, by omega, rfl, rfl⟩
        case round =>
          obtain ⟨k, hk, rfl, rfl⟩ := hrel
          by_cases hlt : k < 4
          · have hs := bsN_lt (s := 3) (by omega) k
            obtain ⟨s, hse⟩ : ∃ s, bsN k 3 = s := ⟨_, rfl⟩
            rw [hse] at hs ⊢
            have Hse := Lib.hid hse
            clear hse
            have e1 : bits .and .u32 (s : Int) 1 = ((s % 2 : Nat) : Int) := by have := u32_and_nat s 1 hs (by omega); rw [and1] at this; exact this
            have e2 := cx (s / 2) bsP (by omega) bsP_lt
            have e2' : bits .xor .u32 ((s : Int) / 2) 3988292384 = ((s / 2 ^^^ bsP : Nat) : Int) := e2
            clear e2
            by_cases hp : s % 2 = 1
            · rw [hp] at e1
              have Hp := Lib.hid hp
              clear hp
              go_wp2
              go_round
              case rel => exact ⟨k + 1, by omega, by go_num, by show _ = Value.int .u32 ((bs (bsN k 3) : Nat) : Int); rw [Hse.out]; unfold bs; rw [if_pos Hp.out]⟩
              case measure => simp [intOf]; omega
            · rw [show s % 2 = 0 by omega] at e1
              have Hp := Lib.hid hp
              clear hp
              go_wp2
              go_round
              case rel => exact ⟨k + 1, by omega, by go_num, by show _ = Value.int .u32 ((bs (bsN k 3) : Nat) : Int); rw [Hse.out]; unfold bs; rw [if_neg Hp.out]; rfl⟩
              case measure => simp [intOf]; omega
          obtain rfl : k = 4 := by omega
          clear hk hlt
          have hT : bsN 4 3 = bsT 3 := rfl
          rw [hT]
          clear hT
          go_wp2
          rw [rounds_succ]
          go_wp2
          go_loop [3, 9] (fun t j => ∃ k : Nat, k ≤ 4 ∧ j = .int .i64 k ∧ t = .int .u32 ((bsN k 4 : Nat) : Int)) (fun _ j => 4 - (intOf j).toNat)
          case atStart => exact ⟨0, by omega, rfl, rfl⟩
          case round =>
            obtain ⟨k, hk, rfl, rfl⟩ := hrel
            by_cases hlt : k < 4
            · have hs := bsN_lt (s := 4) (by omega) k
              obtain ⟨s, hse⟩ : ∃ s, bsN k 4 = s := ⟨_, rfl⟩
              rw [hse] at hs ⊢
              have Hse := Lib.hid hse
              clear hse
              have e1 : bits .and .u32 (s : Int) 1 = ((s % 2 : Nat) : Int) := by have := u32_and_nat s 1 hs (by omega); rw [and1] at this; exact this
              have e2 := cx (s / 2) bsP (by omega) bsP_lt
              have e2' : bits .xor .u32 ((s : Int) / 2) 3988292384 = ((s / 2 ^^^ bsP : Nat) : Int) := e2
              clear e2
              by_cases hp : s % 2 = 1
              · rw [hp] at e1
                have Hp := Lib.hid hp
                clear hp
                go_wp2
                go_round
                case rel => exact ⟨k + 1, by omega, by go_num, by show _ = Value.int .u32 ((bs (bsN k 4) : Nat) : Int); rw [Hse.out]; unfold bs; rw [if_pos Hp.out]⟩
                case measure => simp [intOf]; omega
              · rw [show s % 2 = 0 by omega] at e1
                have Hp := Lib.hid hp
                clear hp
                go_wp2
                go_round
                case rel => exact ⟨k + 1, by omega, by go_num, by show _ = Value.int .u32 ((bs (bsN k 4) : Nat) : Int); rw [Hse.out]; unfold bs; rw [if_neg Hp.out]; rfl⟩
                case measure => simp [intOf]; omega
            obtain rfl : k = 4 := by omega
            clear hk hlt
            have hT : bsN 4 4 = bsT 4 := rfl
            rw [hT]
            clear hT
            go_wp2
            rw [rounds_succ]
            go_wp2
            go_loop [3, 9] (fun t j => ∃ k : Nat, k ≤ 4 ∧ j = .int .i64 k ∧ t = .int .u32 ((bsN k 5 : Nat) : Int)) (fun _ j => 4 - (intOf j).toNat)
            case atStart => exact ⟨0, by omega, rfl, rfl⟩
            case round =>
              obtain ⟨k, hk, rfl, rfl⟩ := hrel
              by_cases hlt : k < 4
              · have hs := bsN_lt (s := 5) (by omega) k
                obtain ⟨s, hse⟩ : ∃ s, bsN k 5 = s := ⟨_, rfl⟩
                rw [hse] at hs ⊢
                have Hse := Lib.hid hse
                clear hse
                have e1 : bits .and .u32 (s : Int) 1 = ((s % 2 : Nat) : Int) := by have := u32_and_nat s 1 hs (by omega); rw [and1] at this; exact this
                have e2 := cx (s / 2) bsP (by omega) bsP_lt
                have e2' : bits .xor .u32 ((s : Int) / 2) 3988292384 = ((s / 2 ^^^ bsP : Nat) : Int) := e2
                clear e2
                by_cases hp : s % 2 = 1
                · rw [hp] at e1
                  have Hp := Lib.hid hp
                  clear hp
                  go_wp2
                  go_round
                  case rel => exact ⟨k + 1, by omega, by go_num, by show _ = Value.int .u32 ((bs (bsN k 5) : Nat) : Int); rw [Hse.out]; unfold bs; rw [if_pos Hp.out]⟩
                  case measure => simp [intOf]; omega
                · rw [show s % 2 = 0 by omega] at e1
                  have Hp := Lib.hid hp
                  clear hp
                  go_wp2
                  go_round
                  case rel => exact ⟨k + 1, by omega, by go_num, by show _ = Value.int .u32 ((bs (bsN k 5) : Nat) : Int); rw [Hse.out]; unfold bs; rw [if_neg Hp.out]; rfl⟩
                  case measure => simp [intOf]; omega
              obtain rfl : k = 4 := by omega
              clear hk hlt
              have hT : bsN 4 5 = bsT 5 := rfl
              rw [hT]
              clear hT
              go_wp2
              rw [rounds_succ]
              go_wp2
              go_loop [3, 9] (fun t j => ∃ k : Nat, k ≤ 4 ∧ j = .int .i64 k ∧ t = .int .u32 ((bsN k 6 : Nat) : Int)) (fun _ j => 4 - (intOf j).toNat)
              case atStart => exact ⟨0, by omega, rfl, rfl⟩
              case round =>
                obtain ⟨k, hk, rfl, rfl⟩ := hrel
                by_cases hlt : k < 4
                · have hs := bsN_lt (s := 6) (by omega) k
                  obtain ⟨s, hse⟩ : ∃ s, bsN k 6 = s := ⟨_, rfl⟩
                  rw [hse] at hs ⊢
                  have Hse := Lib.hid hse
                  clear hse
                  have e1 : bits .and .u32 (s : Int) 1 = ((s % 2 : Nat) : Int) := by have := u32_and_nat s 1 hs (by omega); rw [and1] at this; exact this
                  have e2 := cx (s / 2) bsP (by omega) bsP_lt
                  have e2' : bits .xor .u32 ((s : Int) / 2) 3988292384 = ((s / 2 ^^^ bsP : Nat) : Int) := e2
                  clear e2
                  by_cases hp : s % 2 = 1
                  · rw [hp] at e1
                    have Hp := Lib.hid hp
                    clear hp
                    go_wp2
                    go_round
                    case rel => exact ⟨k + 1, by omega, by go_num, by show _ = Value.int .u32 ((bs (bsN k 6) : Nat) : Int); rw [Hse.out]; unfold bs; rw [if_pos Hp.out]⟩
                    case measure => simp [intOf]; omega
                  · rw [show s % 2 = 0 by omega] at e1
                    have Hp := Lib.hid hp
                    clear hp
                    go_wp2
                    go_round
                    case rel => exact ⟨k + 1, by omega, by go_num, by show _ = Value.int .u32 ((bs (bsN k 6) : Nat) : Int); rw [Hse.out]; unfold bs; rw [if_neg Hp.out]; rfl⟩
                    case measure => simp [intOf]; omega
                obtain rfl : k = 4 := by omega
                clear hk hlt
                have hT : bsN 4 6 = bsT 6 := rfl
                rw [hT]
                clear hT
                go_wp2
                rw [rounds_succ]
                go_wp2
                go_loop [3, 9] (fun t j => ∃ k : Nat, k ≤ 4 ∧ j = .int .i64 k ∧ t = .int .u32 ((bsN k 7 : Nat) : Int)) (fun _ j => 4 - (intOf j).toNat)
                case atStart => exact ⟨0, by omega, rfl, rfl⟩
                case round =>
                  obtain ⟨k, hk, rfl, rfl⟩ := hrel
                  by_cases hlt : k < 4
                  · have hs := bsN_lt (s := 7) (by omega) k
                    obtain ⟨s, hse⟩ : ∃ s, bsN k 7 = s := ⟨_, rfl⟩
                    rw [hse] at hs ⊢
                    have Hse := Lib.hid hse
                    clear hse
                    have e1 : bits .and .u32 (s : Int) 1 = ((s % 2 : Nat) : Int) := by have := u32_and_nat s 1 hs (by omega); rw [and1] at this; exact this
                    have e2 := cx (s / 2) bsP (by omega) bsP_lt
                    have e2' : bits .xor .u32 ((s : Int) / 2) 3988292384 = ((s / 2 ^^^ bsP : Nat) : Int) := e2
                    clear e2
                    by_cases hp : s % 2 = 1
                    · rw [hp] at e1
                      have Hp := Lib.hid hp
                      clear hp
                      go_wp2
                      go_round
                      case rel => exact ⟨k + 1, by omega, by go_num, by show _ = Value.int .u32 ((bs (bsN k 7) : Nat) : Int); rw [Hse.out]; unfold bs; rw [if_pos Hp.out]⟩
                      case measure => simp [intOf]; omega
                    · rw [show s % 2 = 0 by omega] at e1
                      have Hp := Lib.hid hp
                      clear hp
                      go_wp2
                      go_round
                      case rel => exact ⟨k + 1, by omega, by go_num, by show _ = Value.int .u32 ((bs (bsN k 7) : Nat) : Int); rw [Hse.out]; unfold bs; rw [if_neg Hp.out]; rfl⟩
                      case measure => simp [intOf]; omega
                  obtain rfl : k = 4 := by omega
                  clear hk hlt
                  have hT : bsN 4 7 = bsT 7 := rfl
                  rw [hT]
                  clear hT
                  go_wp2
                  rw [rounds_succ]
                  go_wp2
                  go_loop [3, 9] (fun t j => ∃ k : Nat, k ≤ 4 ∧ j = .int .i64 k ∧ t = .int .u32 ((bsN k 8 : Nat) : Int)) (fun _ j => 4 - (intOf j).toNat)
                  case atStart => exact ⟨0, by omega, rfl, rfl⟩
                  case round =>
                    obtain ⟨k, hk, rfl, rfl⟩ := hrel
                    by_cases hlt : k < 4
                    · have hs := bsN_lt (s := 8) (by omega) k
                      obtain ⟨s, hse⟩ : ∃ s, bsN k 8 = s := ⟨_, rfl⟩
                      rw [hse] at hs ⊢
                      have Hse := Lib.hid hse
                      clear hse
                      have e1 : bits .and .u32 (s : Int) 1 = ((s % 2 : Nat) : Int) := by have := u32_and_nat s 1 hs (by omega); rw [and1] at this; exact this
                      have e2 := cx (s / 2) bsP (by omega) bsP_lt
                      have e2' : bits .xor .u32 ((s : Int) / 2) 3988292384 = ((s / 2 ^^^ bsP : Nat) : Int) := e2
                      clear e2
                      by_cases hp : s % 2 = 1
                      · rw [hp] at e1
                        have Hp := Lib.hid hp
                        clear hp
                        go_wp2
                        go_round
                        case rel => exact ⟨k + 1, by omega, by go_num, by show _ = Value.int .u32 ((bs (bsN k 8) : Nat) : Int); rw [Hse.out]; unfold bs; rw [if_pos Hp.out]⟩
                        case measure => simp [intOf]; omega
                      · rw [show s % 2 = 0 by omega] at e1
                        have Hp := Lib.hid hp
                        clear hp
                        go_wp2
                        go_round
                        case rel => exact ⟨k + 1, by omega, by go_num, by show _ = Value.int .u32 ((bs (bsN k 8) : Nat) : Int); rw [Hse.out]; unfold bs; rw [if_neg Hp.out]; rfl⟩
                        case measure => simp [intOf]; omega
                    obtain rfl : k = 4 := by omega
                    clear hk hlt
                    have hT : bsN 4 8 = bsT 8 := rfl
                    rw [hT]
                    clear hT
                    go_wp2
                    rw [rounds_succ]
                    go_wp2
                    go_loop [3, 9] (fun t j => ∃ k : Nat, k ≤ 4 ∧ j = .int .i64 k ∧ t = .int .u32 ((bsN k 9 : Nat) : Int)) (fun _ j => 4 - (intOf j).toNat)
                    case atStart => exact ⟨0, by omega, rfl, rfl⟩
                    case round =>
                      obtain ⟨k, hk, rfl, rfl⟩ := hrel
                      by_cases hlt : k < 4
                      · have hs := bsN_lt (s := 9) (by omega) k
                        obtain ⟨s, hse⟩ : ∃ s, bsN k 9 = s := ⟨_, rfl⟩
                        rw [hse] at hs ⊢
                        have Hse := Lib.hid hse
                        clear hse
                        have e1 : bits .and .u32 (s : Int) 1 = ((s % 2 : Nat) : Int) := by have := u32_and_nat s 1 hs (by omega); rw [and1] at this; exact this
                        have e2 := cx (s / 2) bsP (by omega) bsP_lt
                        have e2' : bits .xor .u32 ((s : Int) / 2) 3988292384 = ((s / 2 ^^^ bsP : Nat) : Int) := e2
                        clear e2
                        by_cases hp : s % 2 = 1
                        · rw [hp] at e1
                          have Hp := Lib.hid hp
                          clear hp
                          go_wp2
                          go_round
                          case rel => exact ⟨k + 1, by omega, by go_num, by show _ = Value.int .u32 ((bs (bsN k 9) : Nat) : Int); rw [Hse.out]; unfold bs; rw [if_pos Hp.out]⟩
                          case measure => simp [intOf]; omega
                        · rw [show s % 2 = 0 by omega] at e1
                          have Hp := Lib.hid hp
                          clear hp
                          go_wp2
                          go_round
                          case rel => exact ⟨k + 1, by omega, by go_num, by show _ = Value.int .u32 ((bs (bsN k 9) : Nat) : Int); rw [Hse.out]; unfold bs; rw [if_neg Hp.out]; rfl⟩
                          case measure => simp [intOf]; omega
                      obtain rfl : k = 4 := by omega
                      clear hk hlt
                      have hT : bsN 4 9 = bsT 9 := rfl
                      rw [hT]
                      clear hT
                      go_wp2
                      rw [rounds_succ]
                      go_wp2
                      go_loop [3, 9] (fun t j => ∃ k : Nat, k ≤ 4 ∧ j = .int .i64 k ∧ t = .int .u32 ((bsN k 10 : Nat) : Int)) (fun _ j => 4 - (intOf j).toNat)
                      case atStart => exact ⟨0, by omega, rfl, rfl⟩
                      case round =>
                        obtain ⟨k, hk, rfl, rfl⟩ := hrel
                        by_cases hlt : k < 4
                        · have hs := bsN_lt (s := 10) (by omega) k
                          obtain ⟨s, hse⟩ : ∃ s, bsN k 10 = s := ⟨_, rfl⟩
                          rw [hse] at hs ⊢
                          have Hse := Lib.hid hse
                          clear hse
                          have e1 : bits .and .u32 (s : Int) 1 = ((s % 2 : Nat) : Int) := by have := u32_and_nat s 1 hs (by omega); rw [and1] at this; exact this
                          have e2 := cx (s / 2) bsP (by omega) bsP_lt
                          have e2' : bits .xor .u32 ((s : Int) / 2) 3988292384 = ((s / 2 ^^^ bsP : Nat) : Int) := e2
                          clear e2
                          by_cases hp : s % 2 = 1
                          · rw [hp] at e1
                            have Hp := Lib.hid hp
                            clear hp
                            go_wp2
                            go_round
                            case rel => exact ⟨k + 1, by omega, by go_num, by show _ = Value.int .u32 ((bs (bsN k 10) : Nat) : Int); rw [Hse.out]; unfold bs; rw [if_pos Hp.out]⟩
                            case measure => simp [intOf]; omega
                          · rw [show s % 2 = 0 by omega] at e1
                            have Hp := Lib.hid hp
                            clear hp
                            go_wp2
                            go_round
                            case rel => exact ⟨k + 1, by omega, by go_num, by show _ = Value.int .u32 ((bs (bsN k 10) : Nat) : Int); rw [Hse.out]; unfold bs; rw [if_neg Hp.out]; rfl⟩
                            case measure => simp [intOf]; omega
                        obtain rfl : k = 4 := by omega
                        clear hk hlt
                        have hT : bsN 4 10 = bsT 10 := rfl
                        rw [hT]
                        clear hT
                        go_wp2
                        rw [rounds_succ]
                        go_wp2
                        go_loop [3, 9] (fun t j => ∃ k : Nat, k ≤ 4 ∧ j = .int .i64 k ∧ t = .int .u32 ((bsN k 11 : Nat) : Int)) (fun _ j => 4 - (intOf j).toNat)
                        case atStart => exact ⟨0, by omega, rfl, rfl⟩
                        case round =>
                          obtain ⟨k, hk, rfl, rfl⟩ := hrel
                          by_cases hlt : k < 4
                          · have hs := bsN_lt (s := 11) (by omega) k
                            obtain ⟨s, hse⟩ : ∃ s, bsN k 11 = s := ⟨_, rfl⟩
                            rw [hse] at hs ⊢
                            have Hse := Lib.hid hse
                            clear hse
                            have e1 : bits .and .u32 (s : Int) 1 = ((s % 2 : Nat) : Int) := by have := u32_and_nat s 1 hs (by omega); rw [and1] at this; exact this
                            have e2 := cx (s / 2) bsP (by omega) bsP_lt
                            have e2' : bits .xor .u32 ((s : Int) / 2) 3988292384 = ((s / 2 ^^^ bsP : Nat) : Int) := e2
                            clear e2
                            by_cases hp : s % 2 = 1
                            · rw [hp] at e1
                              have Hp := Lib.hid hp
                              clear hp
                              go_wp2
                              go_round
                              case rel => exact ⟨k + 1, by omega, by go_num, by show _ = Value.int .u32 ((bs (bsN k 11) : Nat) : Int); rw [Hse.out]; unfold bs; rw [if_pos Hp.out]⟩
                              case measure => simp [intOf]; omega
                            · rw [show s % 2 = 0 by omega] at e1
                              have Hp := Lib.hid hp
                              clear hp
                              go_wp2
                              go_round
                              case rel => exact ⟨k + 1, by omega, by go_num, by show _ = Value.int .u32 ((bs (bsN k 11) : Nat) : Int); rw [Hse.out]; unfold bs; rw [if_neg Hp.out]; rfl⟩
                              case measure => simp [intOf]; omega
                          obtain rfl : k = 4 := by omega
                          clear hk hlt
                          have hT : bsN 4 11 = bsT 11 := rfl
                          rw [hT]
                          clear hT
                          go_wp2
                          rw [rounds_succ]
                          go_wp2
                          go_loop [3, 9] (fun t j => ∃ k : Nat, k ≤ 4 ∧ j = .int .i64 k ∧ t = .int .u32 ((bsN k 12 : Nat) : Int)) (fun _ j => 4 - (intOf j).toNat)
                          case atStart => exact ⟨0, by omega, rfl, rfl⟩
                          case round =>
                            obtain ⟨k, hk, rfl, rfl⟩ := hrel
                            by_cases hlt : k < 4
                            · have hs := bsN_lt (s := 12) (by omega) k
                              obtain ⟨s, hse⟩ : ∃ s, bsN k 12 = s := ⟨_, rfl⟩
                              rw [hse] at hs ⊢
                              have Hse := Lib.hid hse
                              clear hse
                              have e1 : bits .and .u32 (s : Int) 1 = ((s % 2 : Nat) : Int) := by have := u32_and_nat s 1 hs (by omega); rw [and1] at this; exact this
                              have e2 := cx (s / 2) bsP (by omega) bsP_lt
                              have e2' : bits .xor .u32 ((s : Int) / 2) 3988292384 = ((s / 2 ^^^ bsP : Nat) : Int) := e2
                              clear e2
                              by_cases hp : s % 2 = 1
                              · rw [hp] at e1
                                have Hp := Lib.hid hp
                                clear hp
                                go_wp2
                                go_round
                                case rel => exact ⟨k + 1, by omega, by go_num, by show _ = Value.int .u32 ((bs (bsN k 12) : Nat) : Int); rw [Hse.out]; unfold bs; rw [if_pos Hp.out]⟩
                                case measure => simp [intOf]; omega
                              · rw [show s % 2 = 0 by omega] at e1
                                have Hp := Lib.hid hp
                                clear hp
                                go_wp2
                                go_round
                                case rel => exact ⟨k + 1, by omega, by go_num, by show _ = Value.int .u32 ((bs (bsN k 12) : Nat) : Int); rw [Hse.out]; unfold bs; rw [if_neg Hp.out]; rfl⟩
                                case measure => simp [intOf]; omega
                            obtain rfl : k = 4 := by omega
                            clear hk hlt
                            have hT : bsN 4 12 = bsT 12 := rfl
                            rw [hT]
                            clear hT
                            go_wp2
                            rw [rounds_succ]
                            go_wp2
                            go_loop [3, 9] (fun t j => ∃ k : Nat, k ≤ 4 ∧ j = .int .i64 k ∧ t = .int .u32 ((bsN k 13 : Nat) : Int)) (fun _ j => 4 - (intOf j).toNat)
                            case atStart => exact ⟨0, by omega, rfl, rfl⟩
                            case round =>
                              obtain ⟨k, hk, rfl, rfl⟩ := hrel
                              by_cases hlt : k < 4
                              · have hs := bsN_lt (s := 13) (by omega) k
                                obtain ⟨s, hse⟩ : ∃ s, bsN k 13 = s := ⟨_, rfl⟩
                                rw [hse] at hs ⊢
                                have Hse := Lib.hid hse
                                clear hse
                                have e1 : bits .and .u32 (s : Int) 1 = ((s % 2 : Nat) : Int) := by have := u32_and_nat s 1 hs (by omega); rw [and1] at this; exact this
                                have e2 := cx (s / 2) bsP (by omega) bsP_lt
                                have e2' : bits .xor .u32 ((s : Int) / 2) 3988292384 = ((s / 2 ^^^ bsP : Nat) : Int) := e2
                                clear e2
                                by_cases hp : s % 2 = 1
                                · rw [hp] at e1
                                  have Hp := Lib.hid hp
                                  clear hp
                                  go_wp2
                                  go_round
                                  case rel => exact ⟨k + 1, by omega, by go_num, by show _ = Value.int .u32 ((bs (bsN k 13) : Nat) : Int); rw [Hse.out]; unfold bs; rw [if_pos Hp.out]⟩
                                  case measure => simp [intOf]; omega
                                · rw [show s % 2 = 0 by omega] at e1
                                  have Hp := Lib.hid hp
                                  clear hp
                                  go_wp2
                                  go_round
                                  case rel => exact ⟨k + 1, by omega, by go_num, by show _ = Value.int .u32 ((bs (bsN k 13) : Nat) : Int); rw [Hse.out]; unfold bs; rw [if_neg Hp.out]; rfl⟩
                                  case measure => simp [intOf]; omega
                              obtain rfl : k = 4 := by omega
                              clear hk hlt
                              have hT : bsN 4 13 = bsT 13 := rfl
                              rw [hT]
                              clear hT
                              go_wp2
                              rw [rounds_succ]
                              go_wp2
                              go_loop [3, 9] (fun t j => ∃ k : Nat, k ≤ 4 ∧ j = .int .i64 k ∧ t = .int .u32 ((bsN k 14 : Nat) : Int)) (fun _ j => 4 - (intOf j).toNat)
                              case atStart => exact ⟨0, by omega, rfl, rfl⟩
                              case round =>
                                obtain ⟨k, hk, rfl, rfl⟩ := hrel
                                by_cases hlt : k < 4
                                · have hs := bsN_lt (s := 14) (by omega) k
                                  obtain ⟨s, hse⟩ : ∃ s, bsN k 14 = s := ⟨_, rfl⟩
                                  rw [hse] at hs ⊢
                                  have Hse := Lib.hid hse
                                  clear hse
                                  have e1 : bits .and .u32 (s : Int) 1 = ((s % 2 : Nat) : Int) := by have := u32_and_nat s 1 hs (by omega); rw [and1] at this; exact this
                                  have e2 := cx (s / 2) bsP (by omega) bsP_lt
                                  have e2' : bits .xor .u32 ((s : Int) / 2) 3988292384 = ((s / 2 ^^^ bsP : Nat) : Int) := e2
                                  clear e2
                                  by_cases hp : s % 2 = 1
                                  · rw [hp] at e1
                                    have Hp := Lib.hid hp
                                    clear hp
                                    go_wp2
                                    go_round
                                    case rel => exact ⟨k + 1, by omega, by go_num, by show _ = Value.int .u32 ((bs (bsN k 14) : Nat) : Int); rw [Hse.out]; unfold bs; rw [if_pos Hp.out]⟩
                                    case measure => simp [intOf]; omega
                                  · rw [show s % 2 = 0 by omega] at e1
                                    have Hp := Lib.hid hp
                                    clear hp
                                    go_wp2
                                    go_round
                                    case rel => exact ⟨k + 1, by omega, by go_num, by show _ = Value.int .u32 ((bs (bsN k 14) : Nat) : Int); rw [Hse.out]; unfold bs; rw [if_neg Hp.out]; rfl⟩
                                    case measure => simp [intOf]; omega
                                obtain rfl : k = 4 := by omega
                                clear hk hlt
                                have hT : bsN 4 14 = bsT 14 := rfl
                                rw [hT]
                                clear hT
                                go_wp2
                                rw [rounds_succ]
                                go_wp2
                                go_loop [3, 9] (fun t j => ∃ k : Nat, k ≤ 4 ∧ j = .int .i64 k ∧ t = .int .u32 ((bsN k 15 : Nat) : Int)) (fun _ j => 4 - (intOf j).toNat)
                                case atStart => exact ⟨0, by omega, rfl, rfl⟩
                                case round =>
                                  obtain ⟨k, hk, rfl, rfl⟩ := hrel
                                  by_cases hlt : k < 4
                                  · have hs := bsN_lt (s := 15) (by omega) k
                                    obtain ⟨s, hse⟩ : ∃ s, bsN k 15 = s := ⟨_, rfl⟩
                                    rw [hse] at hs ⊢
                                    have Hse := Lib.hid hse
                                    clear hse
                                    have e1 : bits .and .u32 (s : Int) 1 = ((s % 2 : Nat) : Int) := by have := u32_and_nat s 1 hs (by omega); rw [and1] at this; exact this
                                    have e2 := cx (s / 2) bsP (by omega) bsP_lt
                                    have e2' : bits .xor .u32 ((s : Int) / 2) 3988292384 = ((s / 2 ^^^ bsP : Nat) : Int) := e2
                                    clear e2
                                    by_cases hp : s % 2 = 1
                                    · rw [hp] at e1
                                      have Hp := Lib.hid hp
                                      clear hp
                                      go_wp2
                                      go_round
                                      case rel => exact ⟨k + 1, by omega, by go_num, by show _ = Value.int .u32 ((bs (bsN k 15) : Nat) : Int); rw [Hse.out]; unfold bs; rw [if_pos Hp.out]⟩
                                      case measure => simp [intOf]; omega
                                    · rw [show s % 2 = 0 by omega] at e1
                                      have Hp := Lib.hid hp
                                      clear hp
                                      go_wp2
                                      go_round
                                      case rel => exact ⟨k + 1, by omega, by go_num, by show _ = Value.int .u32 ((bs (bsN k 15) : Nat) : Int); rw [Hse.out]; unfold bs; rw [if_neg Hp.out]; rfl⟩
                                      case measure => simp [intOf]; omega
                                  obtain rfl : k = 4 := by omega
                                  clear hk hlt
                                  have hT : bsN 4 15 = bsT 15 := rfl
                                  rw [hT]
                                  clear hT
                                  go_wp2
                                  rw [rounds_succ]
                                  go_wp2
                                  go_returns
                                  exact ⟨rfl, by go_grown⟩
end Go.Proofs.YtjikkipdmonndaaDoor

/- Layer 2: more contracts of crc and of its answer. -/
namespace Go.Proofs.YtjikkipdmonndaaDoor
open Go.RowKit
theorem ref02_Next (s c : Nat) (hs : s < 4294967296) (hc : c < 256) (w : World) :
    Calls Tryd.prog 92 #[.int .u32 (s : Int), .int .u8 (c : Int)] w fun e w' => e = .returned (.int .u32 ((crcB s c : Nat) : Int)) ∧ w = w' := by
  have hx : s ^^^ c < 4294967296 := Nat.xor_lt_two_pow (n := 32) hs (by omega)
  have e1 := cx s c hs (by omega)
  have hfin : crcB s c = bsN 8 (s ^^^ c) := rfl
  have Hfin := Lib.hid hfin
  clear hfin
  generalize s ^^^ c = x at *
  go_enter Tryd.func92, Tryd.ntmps92
  go_wp2
  go_loop [0, 5] (fun t j => ∃ k : Nat, k ≤ 8 ∧ j = .int .i64 k ∧ t = .int .u32 ((bsN k x : Nat) : Int)) (fun _ j => 8 - (intOf j).toNat)
  case atStart => exact ⟨0, by omega, rfl, rfl⟩
  case round =>
    obtain ⟨k, hk, rfl, rfl⟩ := hrel
    clear e1
    by_cases hlt : k < 8
    · have hs := bsN_lt hx k
      obtain ⟨s, hse⟩ : ∃ s, bsN k x = s := ⟨_, rfl⟩
      rw [hse] at hs ⊢
      have Hse := Lib.hid hse
      clear hse
      have e2 := cx (s / 2) bsP (by omega) bsP_lt
      have e2' : bits .xor .u32 ((s : Int) / 2) 3988292384 = ((s / 2 ^^^ bsP : Nat) : Int) := e2
      clear e2
      by_cases hp : s % 2 = 1
      · have e1 : ((s : Int) % 2 == 1) = true := by simp; omega
        have Hp := Lib.hid hp
        clear hp
        go_wp2
        go_round
        case rel => exact ⟨k + 1, by omega, by go_num, by show _ = Value.int .u32 ((bs (bsN k x) : Nat) : Int); rw [Hse.out]; unfold bs; rw [if_pos Hp.out]⟩
        case measure => simp [intOf]; omega
      · have e1 : ((s : Int) % 2 == 1) = false := by simp; omega
        have Hp := Lib.hid hp
        clear hp
        go_wp2
        go_round
        case rel => exact ⟨k + 1, by omega, by go_num, by show _ = Value.int .u32 ((bs (bsN k x) : Nat) : Int); rw [Hse.out]; unfold bs; rw [if_neg Hp.out]; rfl⟩
        case measure => simp [intOf]; omega
    obtain rfl : k = 8 := by omega
    go_wp2
    go_ret
    exact ⟨ret_u32 (by rw [Hfin.out]), rfl⟩
theorem tabAt_new (w : World) : TabAt (w.alloc (.cells #[.int .u32 (bsT 0 : Nat), .int .u32 (bsT 1 : Nat), .int .u32 (bsT 2 : Nat), .int .u32 (bsT 3 : Nat), .int .u32 (bsT 4 : Nat), .int .u32 (bsT 5 : Nat), .int .u32 (bsT 6 : Nat), .int .u32 (bsT 7 : Nat), .int .u32 (bsT 8 : Nat), .int .u32 (bsT 9 : Nat), .int .u32 (bsT 10 : Nat), .int .u32 (bsT 11 : Nat), .int .u32 (bsT 12 : Nat), .int .u32 (bsT 13 : Nat), .int .u32 (bsT 14 : Nat), .int .u32 (bsT 15 : Nat)] 111)) w.heap.size := by
  intro i hi
  obtain rfl | rfl | rfl | rfl | rfl | rfl | rfl | rfl | rfl | rfl | rfl | rfl | rfl | rfl | rfl | rfl : i = 0 ∨ i = 1 ∨ i = 2 ∨ i = 3 ∨ i = 4 ∨ i = 5 ∨ i = 6 ∨ i = 7 ∨ i = 8 ∨ i = 9 ∨ i = 10 ∨ i = 11 ∨ i = 12 ∨ i = 13 ∨ i = 14 ∨ i = 15 := by omega
  all_goals go_cell
theorem take_succ_byte (l : List UInt8) (k : Nat) (h : k < l.length) : l.take (k + 1) = l.take k ++ [l.getD k 0] := by
  rw [List.take_succ_eq_append_getElem h]; simp [List.getD, h]
theorem crcO_take (s : Nat) (l : List UInt8) (k : Nat) (h : k < l.length) : crcO s (l.take (k + 1)) = crcB (crcO s (l.take k)) (l.getD k 0).toNat := by
  rw [take_succ_byte l k h, crcO_append]; rfl
theorem crc_Over (s : Nat) (hs : s < 4294967296) (v : Value) (l : List UInt8) (w : World) (hv : RowAt w v l.length (byteV l)) :
    Calls Tryd.prog 57 #[.int .u32 (s : Int), v] w fun e w' => e = .returned (.int .u32 ((crcO s l : Nat) : Int)) ∧ Below w.heap.size w w' := by
  have hle := hv.le
  rcases hv with ⟨a, cap, rfl, h0, _⟩ | ⟨b, off, cap, rfl, h1, h2, h3, h4, hcell⟩
  · obtain rfl : l = [] := List.length_eq_zero_iff.1 h0
    go_enter Tryd.func57, Tryd.ntmps57
    go_wp2_with fail
    refine (crc_steps _).mono ?_; rintro e w1 ⟨rfl, hb⟩
    have hz := hb.size
    go_wp2
    refine wp_loop_rounds 1 ?_
    rw [rounds_succ]
    go_wp2
    go_ret
    exact ⟨rfl, by go_grown⟩
  · unfold maxLen at h3
    go_enter Tryd.func57, Tryd.ntmps57
    go_wp2_with fail
    refine (crc_steps _).mono ?_; rintro e w1 ⟨rfl, hb⟩
    have hz := hb.size
    go_wp2
    have ht := tabAt_new w1
    have hB : Below w.heap.size w (w1.alloc (.cells #[.int .u32 (bsT 0 : Nat), .int .u32 (bsT 1 : Nat), .int .u32 (bsT 2 : Nat), .int .u32 (bsT 3 : Nat), .int .u32 (bsT 4 : Nat), .int .u32 (bsT 5 : Nat), .int .u32 (bsT 6 : Nat), .int .u32 (bsT 7 : Nat), .int .u32 (bsT 8 : Nat), .int .u32 (bsT 9 : Nat), .int .u32 (bsT 10 : Nat), .int .u32 (bsT 11 : Nat), .int .u32 (bsT 12 : Nat), .int .u32 (bsT 13 : Nat), .int .u32 (bsT 14 : Nat), .int .u32 (bsT 15 : Nat)] 111)) := hb.alloc hz _
    generalize (w1.alloc _) = wo at *
    have hcw : ∀ i, i < l.length → wo.cell? ⟨b, off + i, none⟩ = some (byteV l i) := fun i hi => (hB.cell (p := ⟨b, off + i, none⟩) h4).trans (hcell i hi)
    clear hcell hb hz
    go_loop [0, 11] (fun t j => ∃ k : Nat, k ≤ l.length ∧ j = .int .i64 k ∧ t = .int .u32 ((crcO s (l.take k) : Nat) : Int)) (fun _ j => l.length - (intOf j).toNat)
    case atStart => exact ⟨0, by omega, rfl, rfl⟩
    case round =>
      obtain ⟨k, hk, rfl, rfl⟩ := hrel
      by_cases hlt : k < l.length
      · have hc := hcw k hlt
        have hq := crcO_lt (l.take k) hs
        have Hn := Lib.hid (crcO_take s l k hlt)
        have hbt := (l.getD k 0).toNat_lt
        unfold byteV at hc
        generalize (l.getD k 0).toNat = c at *
        clear hcw
        go_wp2_with fail
        refine (crc_step _ _ c hq hbt _ ht).mono ?_; rintro e w' ⟨rfl, rfl⟩
        go_wp2_with fail
        go_round
        case rel => exact ⟨k + 1, by omega, by go_num, by rw [Hn.out]⟩
        case measure => simp [intOf]; omega
      · obtain rfl : k = l.length := by omega
        clear hcw
        go_wp2_with fail
        go_ret
        exact ⟨by simp, hB⟩
theorem ref02_Over (s : Nat) (hs : s < 4294967296) (v : Value) (l : List UInt8) (w : World) (hv : RowAt w v l.length (byteV l)) :
    Calls Tryd.prog 63 #[.int .u32 (s : Int), v] w fun e w' => e = .returned (.int .u32 ((crcO s l : Nat) : Int)) ∧ w = w' := by
  have hle := hv.le
  rcases hv with ⟨a, cap, rfl, h0, _⟩ | ⟨b, off, cap, rfl, h1, h2, h3, h4, hcell⟩
  · obtain rfl : l = [] := List.length_eq_zero_iff.1 h0
    go_enter Tryd.func63, Tryd.ntmps63
    go_wp2
    refine wp_loop_rounds 1 ?_
    rw [rounds_succ]
    go_wp2
    go_ret
    exact ⟨rfl, rfl⟩
  · unfold maxLen at h3
    go_enter Tryd.func63, Tryd.ntmps63
    go_wp2
    go_loop [0, 5] (fun t j => ∃ k : Nat, k ≤ l.length ∧ j = .int .i64 k ∧ t = .int .u32 ((crcO s (l.take k) : Nat) : Int)) (fun _ j => l.length - (intOf j).toNat)
    case atStart => exact ⟨0, by omega, rfl, rfl⟩
    case round =>
      obtain ⟨k, hk, rfl, rfl⟩ := hrel
      by_cases hlt : k < l.length
      · have hc := hcell k hlt
        have hq := crcO_lt (l.take k) hs
        have Hn := Lib.hid (crcO_take s l k hlt)
        have hbt := (l.getD k 0).toNat_lt
        unfold byteV at hc
        generalize (l.getD k 0).toNat = c at *
        clear hcell
        go_wp2_with fail
        refine (ref02_Next _ _ hq hbt _).mono ?_; rintro e w' ⟨rfl, rfl⟩
        go_wp2_with fail
        go_round
        case rel => exact ⟨k + 1, by omega, by go_num, by rw [Hn.out]⟩
        case measure => simp [intOf]; omega
      · obtain rfl : k = l.length := by omega
        clear hcell
        go_wp2_with fail
        go_ret
        exact ⟨by simp, rfl⟩
end Go.Proofs.YtjikkipdmonndaaDoor

/- Layer 2: the sum of bytes, by both. -/
namespace Go.Proofs.YtjikkipdmonndaaDoor
open Go.RowKit
theorem xor_ones (n : Nat) (h : n < 4294967296) : 4294967295 ^^^ n = 4294967295 - n := by
  apply Nat.eq_of_testBit_eq
  intro i
  rw [Nat.testBit_xor, show (4294967295 : Nat) - n = 2 ^ 32 - (n + 1) by omega, Nat.testBit_two_pow_sub_succ (by omega), show (4294967295 : Nat) = 2 ^ 32 - 1 by rfl, Nat.testBit_two_pow_sub_one]
  by_cases hi : i < 32
  · simp [hi]
  · have : n.testBit i = false := Nat.testBit_lt_two_pow (Nat.lt_of_lt_of_le h (Nat.pow_le_pow_right (n := 2) (by omega) (show 32 ≤ i by omega)))
    simp [hi, this]
theorem xor_max (n : Nat) (h : n < 4294967296) : bits BinOp.xor IntKind.u32 IntKind.u32.max (n : Int) = ((4294967295 - n : Nat) : Int) := by
  have := u32_xor_nat 4294967295 n (by omega) h
  rw [xor_ones n h] at this
  exact this
def crcF (l : List UInt8) : Nat := 4294967295 - crcO 4294967295 l
theorem crc_Of (v : Value) (l : List UInt8) (w : World) (hv : RowAt w v l.length (byteV l)) :
    Calls Tryd.prog 23 #[v] w fun e w' => e = .returned (.int .u32 ((crcF l : Nat) : Int)) ∧ Below w.heap.size w w' := by
  have hq := crcO_lt l (s := 4294967295) (by omega)
  go_enter Tryd.func23, Tryd.ntmps23
  go_wp2_with fail
  refine (crc_Over 4294967295 (by omega) _ l _ hv).mono ?_; rintro e w1 ⟨rfl, hb⟩
  go_wp2_with fail
  go_ret
  exact ⟨ret_u32 (xor_max _ hq), hb⟩
theorem ref02_Of (v : Value) (l : List UInt8) (w : World) (hv : RowAt w v l.length (byteV l)) :
    Calls Tryd.prog 30 #[v] w fun e w' => e = .returned (.int .u32 ((crcF l : Nat) : Int)) ∧ w = w' := by
  have hq := crcO_lt l (s := 4294967295) (by omega)
  go_enter Tryd.func30, Tryd.ntmps30
  go_wp2_with fail
  refine (ref02_Over 4294967295 (by omega) _ l _ hv).mono ?_; rintro e w' ⟨rfl, rfl⟩
  go_wp2_with fail
  go_ret
  exact ⟨ret_u32 (by unfold crcF; omega), rfl⟩
end Go.Proofs.YtjikkipdmonndaaDoor

/- Whether a program's lists are short. -/
namespace Go.Proofs.YtjikkipdmonndaaDoor
open Go.RowKit
set_option linter.unusedSimpArgs false
set_option linter.unusedVariables false
set_option maxHeartbeats 2000000 in
theorem law15_Few (a b c : Value) (x : Un) (w : World) (h : UnAt w a b c x) : Calls Tryd.prog 16 #[.agg #[.string ⟨x.name.toArray⟩, a, .int .i64 x.result, b, c]] w fun e w' => e = .returned (.bool (fewU x)) ∧ Below w.heap.size w w' := by
  have l1 := h.ps.len
  have l2 := h.ls.len
  have l3 := h.cs.len
  have l0 : x.name.length ≤ 9223372036854775807 := h.ns
  obtain ⟨sa, ca, rfl⟩ := row_get h.ps
  obtain ⟨sb, cb, rfl⟩ := row_get h.ls
  obtain ⟨sc, cc, rfl⟩ := row_get h.cs
  have cp := @cell_past
  have HD := Lib.hid (show fewU x = decide (x.name.length ≤ 300 ∧ x.params.length ≤ 20 ∧ x.locals.length ≤ 1100 ∧ x.code.length ≤ 300) from rfl)
  clear h
  have hsz : (⟨x.name.toArray⟩ : ByteArray).size = x.name.length := by simp [ByteArray.size]
  generalize (⟨x.name.toArray⟩ : ByteArray) = nm at *
  generalize x.name.length = n0 at *
  generalize x.params.length = n1 at *
  generalize x.locals.length = n2 at *
  generalize x.code.length = n3 at *
  by_cases h0 : n0 ≤ 300
  · have q0 : ((n0 : Int) ≤ 300) = True := eq_true (by omega)
    by_cases h1 : n1 ≤ 20
    · have q1 : ((n1 : Int) ≤ 20) = True := eq_true (by omega)
      by_cases h2 : n2 ≤ 1100
      · have q2 : ((n2 : Int) ≤ 1100) = True := eq_true (by omega)
        by_cases h3 : n3 ≤ 300
        · have q3 : ((n3 : Int) ≤ 300) = True := eq_true (by omega)
          have hs := Lib.hid (HD.out.trans (decide_eq_true ⟨h0, h1, h2, h3⟩))
          clear h0 h1 h2 h3
          go_enter Tryd.func16, Tryd.ntmps16
          go_wp2_with fail
          go_ret
          exact ⟨by rw [hs.out]; rfl, by (repeat' (first | (with_reducible exact Below.refl _ _) | (with_reducible assumption) | (with_reducible refine below_drewN ?_ _) | (with_reducible refine Below.alloc ?_ ?_ _) | (with_reducible refine Below.drew ?_) | (with_reducible refine Below.setCell ?_ ?_ _) | go_size))⟩
        · have q3 : ((n3 : Int) ≤ 300) = False := eq_false (by omega)
          have hs := Lib.hid (HD.out.trans (decide_eq_false (fun g => h3 g.2.2.2)))
          clear h0 h1 h2 h3
          go_enter Tryd.func16, Tryd.ntmps16
          go_wp2_with fail
          go_ret
          exact ⟨by rw [hs.out]; rfl, by (repeat' (first | (with_reducible exact Below.refl _ _) | (with_reducible assumption) | (with_reducible refine below_drewN ?_ _) | (with_reducible refine Below.alloc ?_ ?_ _) | (with_reducible refine Below.drew ?_) | (with_reducible refine Below.setCell ?_ ?_ _) | go_size))⟩
      · have q2 : ((n2 : Int) ≤ 1100) = False := eq_false (by omega)
        have hs := Lib.hid (HD.out.trans (decide_eq_false (fun g => h2 g.2.2.1)))
        clear h0 h1 h2
        go_enter Tryd.func16, Tryd.ntmps16
        go_wp2_with fail
        go_ret
        exact ⟨by rw [hs.out]; rfl, by (repeat' (first | (with_reducible exact Below.refl _ _) | (with_reducible assumption) | (with_reducible refine below_drewN ?_ _) | (with_reducible refine Below.alloc ?_ ?_ _) | (with_reducible refine Below.drew ?_) | (with_reducible refine Below.setCell ?_ ?_ _) | go_size))⟩
    · have q1 : ((n1 : Int) ≤ 20) = False := eq_false (by omega)
      have hs := Lib.hid (HD.out.trans (decide_eq_false (fun g => h1 g.2.1)))
      clear h0 h1
      go_enter Tryd.func16, Tryd.ntmps16
      go_wp2_with fail
      go_ret
      exact ⟨by rw [hs.out]; rfl, by (repeat' (first | (with_reducible exact Below.refl _ _) | (with_reducible assumption) | (with_reducible refine below_drewN ?_ _) | (with_reducible refine Below.alloc ?_ ?_ _) | (with_reducible refine Below.drew ?_) | (with_reducible refine Below.setCell ?_ ?_ _) | go_size))⟩
  · have q0 : ((n0 : Int) ≤ 300) = False := eq_false (by omega)
    have hs := Lib.hid (HD.out.trans (decide_eq_false (fun g => h0 g.1)))
    clear h0
    go_enter Tryd.func16, Tryd.ntmps16
    go_wp2_with fail
    go_ret
    exact ⟨by rw [hs.out]; rfl, by (repeat' (first | (with_reducible exact Below.refl _ _) | (with_reducible assumption) | (with_reducible refine below_drewN ?_ _) | (with_reducible refine Below.alloc ?_ ?_ _) | (with_reducible refine Below.drew ?_) | (with_reducible refine Below.setCell ?_ ?_ _) | go_size))⟩
end Go.Proofs.YtjikkipdmonndaaDoor

/- Whether a program's lists are short: all of it. -/
namespace Go.Proofs.YtjikkipdmonndaaDoor
open Go.RowKit
set_option linter.unusedSimpArgs false
set_option linter.unusedVariables false
set_option maxHeartbeats 4000000 in
theorem law16_Few (vc vv vb vu : Value) (p : Pr) (w : World) (h : PrAt w vc vv vb vu p) : Calls Tryd.prog 7 #[.agg #[vc, vv, vb, vu]] w fun e w' => e = .returned (.bool (fewP p)) ∧ Below w.heap.size w w' := by
  have l0 := h.cs.len
  have l1 := h.vs.len
  have l2 := h.bs.len
  have l3 := h.us.len
  have hv := h.vs
  have hb := h.bs
  have hu := h.us
  obtain ⟨s0, t0, rfl⟩ := row_get h.cs
  obtain ⟨s1, t1, rfl⟩ := row_get h.vs
  obtain ⟨s2, t2, rfl⟩ := row_get h.bs
  obtain ⟨s3, t3, rfl⟩ := row_get h.us
  have cp := @cell_past
  have HD := Lib.hid (show fewP p = decide ((p.consts.length ≤ 60 ∧ p.vars.length ≤ 70 ∧ p.blocks.length ≤ 40 ∧ p.units.length ≤ 10) ∧ (∀ x ∈ p.vars, x.name.length ≤ 300) ∧ (∀ x ∈ p.blocks, x.name.length ≤ 300) ∧ ∀ x ∈ p.units, fewU x = true) from rfl)
  clear h
  obtain ⟨n0, e0⟩ : ∃ n, p.consts.length = n := ⟨_, rfl⟩
  obtain ⟨n1, e1⟩ : ∃ n, p.vars.length = n := ⟨_, rfl⟩
  obtain ⟨n2, e2⟩ : ∃ n, p.blocks.length = n := ⟨_, rfl⟩
  obtain ⟨n3, e3⟩ : ∃ n, p.units.length = n := ⟨_, rfl⟩
  rw [e0] at l0 HD ⊢
  rw [e1] at l1 hv HD ⊢
  rw [e2] at l2 hb HD ⊢
  rw [e3] at l3 hu HD ⊢
  have HE := Lib.hid (show p.vars.length = n1 ∧ p.blocks.length = n2 ∧ p.units.length = n3 from ⟨e1, e2, e3⟩)
  clear e0 e1 e2 e3
  by_cases h0 : 60 < n0
  · have q0 : (60 < (n0 : Int)) = True := eq_true (by omega)
    have hs := Lib.hid (HD.out.trans (decide_eq_false (fun g => by omega)))
    clear h0 hv hb hu
    go_enter Tryd.func7, Tryd.ntmps7
    go_wp2_with fail
    go_ret
    exact ⟨by rw [hs.out]; rfl, by (repeat' (first | (with_reducible exact Below.refl _ _) | (with_reducible assumption) | (with_reducible refine below_drewN ?_ _) | (with_reducible refine Below.alloc ?_ ?_ _) | (with_reducible refine Below.drew ?_) | (with_reducible refine Below.setCell ?_ ?_ _) | go_size))⟩
  have q0 : (60 < (n0 : Int)) = False := eq_false (by omega)
  by_cases h1 : 70 < n1
  · have q1 : (70 < (n1 : Int)) = True := eq_true (by omega)
    have hs := Lib.hid (HD.out.trans (decide_eq_false (fun g => by omega)))
    clear h0 h1 hv hb hu
    go_enter Tryd.func7, Tryd.ntmps7
    go_wp2_with fail
    go_ret
    exact ⟨by rw [hs.out]; rfl, by (repeat' (first | (with_reducible exact Below.refl _ _) | (with_reducible assumption) | (with_reducible refine below_drewN ?_ _) | (with_reducible refine Below.alloc ?_ ?_ _) | (with_reducible refine Below.drew ?_) | (with_reducible refine Below.setCell ?_ ?_ _) | go_size))⟩
  have q1 : (70 < (n1 : Int)) = False := eq_false (by omega)
  by_cases h2 : 40 < n2
  · have q2 : (40 < (n2 : Int)) = True := eq_true (by omega)
    have hs := Lib.hid (HD.out.trans (decide_eq_false (fun g => by omega)))
    clear h0 h1 h2 hv hb hu
    go_enter Tryd.func7, Tryd.ntmps7
    go_wp2_with fail
    go_ret
    exact ⟨by rw [hs.out]; rfl, by (repeat' (first | (with_reducible exact Below.refl _ _) | (with_reducible assumption) | (with_reducible refine below_drewN ?_ _) | (with_reducible refine Below.alloc ?_ ?_ _) | (with_reducible refine Below.drew ?_) | (with_reducible refine Below.setCell ?_ ?_ _) | go_size))⟩
  have q2 : (40 < (n2 : Int)) = False := eq_false (by omega)
  by_cases h3 : 10 < n3
  · have q3 : (10 < (n3 : Int)) = True := eq_true (by omega)
    have hs := Lib.hid (HD.out.trans (decide_eq_false (fun g => by omega)))
    clear h0 h1 h2 h3 hv hb hu
    go_enter Tryd.func7, Tryd.ntmps7
    go_wp2_with fail
    go_ret
    exact ⟨by rw [hs.out]; rfl, by (repeat' (first | (with_reducible exact Below.refl _ _) | (with_reducible assumption) | (with_reducible refine below_drewN ?_ _) | (with_reducible refine Below.alloc ?_ ?_ _) | (with_reducible refine Below.drew ?_) | (with_reducible refine Below.setCell ?_ ?_ _) | go_size))⟩
  have q3 : (10 < (n3 : Int)) = False := eq_false (by omega)
  have HY := Lib.hid (fun (g1 : ∀ x ∈ p.vars, x.name.length ≤ 300) (g2 : ∀ x ∈ p.blocks, x.name.length ≤ 300) (g3 : ∀ x ∈ p.units, fewU x = true) => HD.out.trans (decide_eq_true ⟨by omega, g1, g2, g3⟩))
  have HV := Lib.hid (fun (x : Vr) (hx : x ∈ p.vars) (g : 300 < x.name.length) => HD.out.trans (decide_eq_false (fun q => by have := q.2.1 x hx; omega)))
  have HB := Lib.hid (fun (x : Bk) (hx : x ∈ p.blocks) (g : 300 < x.name.length) => HD.out.trans (decide_eq_false (fun q => by have := q.2.2.1 x hx; omega)))
  have HU := Lib.hid (fun (x : Un) (hx : x ∈ p.units) (g : fewU x = false) => HD.out.trans (decide_eq_false (fun q => by have := q.2.2.2 x hx; rw [g] at this; cases this)))
  clear HD h0 h1 h2 h3
  have mc := @more_cell
  have mf := @more_frozen
  have ms := @more_set
  have md := more_drewN
  have mm := more_more
  go_enter Tryd.func7, Tryd.ntmps7
  go_wp2_with fail
  go_loopw [3] (fun j wr => ∃ k : Nat, k ≤ n1 ∧ j = .int .i64 k ∧ Hid (∀ x ∈ p.vars.take k, x.name.length ≤ 300) ∧ wr = w.alloc (.cells #[.slice s0 n0 t0, .slice s1 n1 t1, .slice s2 n2 t2, .slice s3 n3 t3] 27)) (fun j _ => n1 - (intOf j).toNat)
  case atStart => exact ⟨0, by omega, rfl, Lib.hid (by simp), rfl⟩
  case round =>
    obtain ⟨k, hk, rfl, hall, rfl⟩ := hrel
    by_cases hlt : k < n1
    · obtain ⟨x, hx⟩ := get_some (L := p.vars) (n := k) (by have := HE.out.1; omega)
      obtain ⟨b, off, rfl, hbw, hc⟩ := var_at hv (k := k) (lt_of_get hx)
      obtain ⟨c0, _, _, _, _, hz, _⟩ := hc k x hx
      have hz : x.name.length ≤ 9223372036854775807 := hz
      have hsz : (⟨x.name.toArray⟩ : ByteArray).size = x.name.length := by simp [ByteArray.size]
      have HX := Lib.hid hx
      clear hc hx
      generalize (⟨x.name.toArray⟩ : ByteArray) = nm at *
      by_cases hl : 300 < x.name.length
      · have hs := Lib.hid (HV.out x (List.mem_of_getElem? HX.out) hl)
        generalize x.name.length = nl at *
        have q4 : (300 < (nl : Int)) = True := eq_true (by omega)
        clear hall hv hb hu
        go_wp2_with fail
        go_ret
        exact ⟨by rw [hs.out]; rfl, by (repeat' (first | (with_reducible exact Below.refl _ _) | (with_reducible assumption) | (with_reducible refine below_drewN ?_ _) | (with_reducible refine Below.alloc ?_ ?_ _) | (with_reducible refine Below.drew ?_) | (with_reducible refine Below.setCell ?_ ?_ _) | go_size))⟩
      · have hs := Lib.hid (show ∀ m ∈ p.vars.take (k + 1), m.name.length ≤ 300 by
          intro m hm
          rw [take_snoc HX.out] at hm
          rcases List.mem_append.1 hm with hm | hm
          · exact hall.out m hm
          · rw [List.mem_singleton.1 hm]; omega)
        generalize x.name.length = nl at *
        have q4 : (300 < (nl : Int)) = False := eq_false (by omega)
        clear hall
        go_wp2_with fail
        go_roundw
        case rel => exact ⟨k + 1, by omega, by simp, hs, trivial⟩
        case measure => first | (simp [intOf]; done) | (simp [intOf]; omega)
    · obtain rfl : k = n1 := by omega
      have H1 := Lib.hid (show ∀ x ∈ p.vars, x.name.length ≤ 300 by have := hall.out; rw [List.take_of_length_le (by have := HE.out.1; omega)] at this; exact this)
      clear hall hv
      go_wp2_with fail
      go_loopw [4] (fun j wr => ∃ q : Nat, q ≤ n2 ∧ j = .int .i64 q ∧ Hid (∀ x ∈ p.blocks.take q, x.name.length ≤ 300) ∧ wr = w.alloc (.cells #[.slice s0 n0 t0, .slice s1 k t1, .slice s2 n2 t2, .slice s3 n3 t3] 27)) (fun j _ => n2 - (intOf j).toNat)
      case atStart => exact ⟨0, by omega, rfl, Lib.hid (by simp), rfl⟩
      case round =>
        obtain ⟨q, hq, rfl, hall, rfl⟩ := hrel
        by_cases hlq : q < n2
        · obtain ⟨x, hx⟩ := get_some (L := p.blocks) (n := q) (by have := HE.out.2.1; omega)
          obtain ⟨b, off, rfl, hbw, hc⟩ := blk_at hb (k := q) (lt_of_get hx)
          obtain ⟨c0, _, hz, _⟩ := hc q x hx
          have hz : x.name.length ≤ 9223372036854775807 := hz
          have hsz : (⟨x.name.toArray⟩ : ByteArray).size = x.name.length := by simp [ByteArray.size]
          have HX := Lib.hid hx
          clear hc hx
          generalize (⟨x.name.toArray⟩ : ByteArray) = nm at *
          by_cases hl : 300 < x.name.length
          · have hs := Lib.hid (HB.out x (List.mem_of_getElem? HX.out) hl)
            generalize x.name.length = nl at *
            have q4 : (300 < (nl : Int)) = True := eq_true (by omega)
            clear hall hb hu
            go_wp2_with fail
            go_ret
            exact ⟨by rw [hs.out]; rfl, by (repeat' (first | (with_reducible exact Below.refl _ _) | (with_reducible assumption) | (with_reducible refine below_drewN ?_ _) | (with_reducible refine Below.alloc ?_ ?_ _) | (with_reducible refine Below.drew ?_) | (with_reducible refine Below.setCell ?_ ?_ _) | go_size))⟩
          · have hs := Lib.hid (show ∀ m ∈ p.blocks.take (q + 1), m.name.length ≤ 300 by
              intro m hm
              rw [take_snoc HX.out] at hm
              rcases List.mem_append.1 hm with hm | hm
              · exact hall.out m hm
              · rw [List.mem_singleton.1 hm]; omega)
            generalize x.name.length = nl at *
            have q4 : (300 < (nl : Int)) = False := eq_false (by omega)
            clear hall
            go_wp2_with fail
            go_roundw
            case rel => exact ⟨q + 1, by omega, by simp, hs, trivial⟩
            case measure => first | (simp [intOf]; done) | (simp [intOf]; omega)
        · obtain rfl : q = n2 := by omega
          have H2 := Lib.hid (show ∀ x ∈ p.blocks, x.name.length ≤ 300 by have := hall.out; rw [List.take_of_length_le (by have := HE.out.2.1; omega)] at this; exact this)
          clear hall hb
          go_wp2_with fail
          go_loopw [5] (fun j wr => ∃ (i : Nat) (l : Array Obj) (d : Nat), i ≤ n3 ∧ j = .int .i64 i ∧ Hid (∀ x ∈ p.units.take i, fewU x = true) ∧ wr = wmore (w.alloc (.cells #[.slice s0 n0 t0, .slice s1 k t1, .slice s2 q t2, .slice s3 n3 t3] 27)) l d) (fun j _ => n3 - (intOf j).toNat)
          case atStart => exact ⟨0, #[], _, by omega, rfl, Lib.hid (by simp), more_start _⟩
          case round =>
            obtain ⟨i, l, d, hi, rfl, hall, rfl⟩ := hrel
            by_cases hli : i < n3
            · have hB : Below w.heap.size w (wmore (w.alloc (.cells #[.slice s0 n0 t0, .slice s1 k t1, .slice s2 q t2, .slice s3 n3 t3] 27)) l d) := by (repeat' (first | (with_reducible exact Below.refl _ _) | (with_reducible assumption) | (with_reducible refine more_below ?_ ?_ _ _) | (with_reducible refine below_drewN ?_ _) | (with_reducible refine Below.alloc ?_ ?_ _) | (with_reducible refine Below.drew ?_) | (with_reducible refine Below.setCell ?_ ?_ _) | (simp only [World.size_alloc, World.size_setCell, World.size_drew, more_size, World.heap_drewN]; omega) | go_size))
              obtain ⟨x, hx⟩ := get_some (L := p.units) (n := i) (by have := HE.out.2.2; omega)
              obtain ⟨b, off, rfl, hbw, hc⟩ := unit_at hu (k := i) (lt_of_get hx)
              obtain ⟨u1, u3, u4, c0, c1, c2, c3, c4, hU⟩ := hc i x hx
              have HX := Lib.hid hx
              have HF := Lib.hid (law15_Few u1 u3 u4 x _ (hU.below hB))
              obtain ⟨su1, cu1, rfl⟩ := row_get hU.ps
              obtain ⟨su3, cu3, rfl⟩ := row_get hU.ls
              obtain ⟨su4, cu4, rfl⟩ := row_get hU.cs
              have hU0 := hU.below hB
              clear hc hx hU
              go_wp2_with fail
              refine (HF.out).mono ?_
              rintro e W1 ⟨rfl, hb1⟩
              obtain ⟨l2, d2, rfl⟩ := more_of hb1
              clear hb1
              rw [more_more]
              generalize hff : fewU x = ff
              cases ff
              · have hs := Lib.hid (HU.out x (List.mem_of_getElem? HX.out) hff)
                clear hff
                go_wp2_with fail
                go_ret
                exact ⟨by rw [hs.out]; rfl, by (repeat' (first | (with_reducible exact Below.refl _ _) | (with_reducible assumption) | (with_reducible refine more_below ?_ ?_ _ _) | (with_reducible refine below_drewN ?_ _) | (with_reducible refine Below.alloc ?_ ?_ _) | (with_reducible refine Below.drew ?_) | (with_reducible refine Below.setCell ?_ ?_ _) | (simp only [World.size_alloc, World.size_setCell, World.size_drew, more_size, World.heap_drewN]; omega) | go_size))⟩
              · have hs := Lib.hid (show ∀ m ∈ p.units.take (i + 1), fewU m = true by
                  intro m hm
                  rw [take_snoc HX.out] at hm
                  rcases List.mem_append.1 hm with hm | hm
                  · exact hall.out m hm
                  · rw [List.mem_singleton.1 hm]; exact hff)
                clear hff
                go_wp2_with fail
                go_roundw
                case rel => exact ⟨i + 1, _, _, by omega, by simp, hs, rfl⟩
                case measure => first | (simp [intOf]; done) | (simp [intOf]; omega)
            · obtain rfl : i = n3 := by omega
              have hs := Lib.hid (HY.out H1.out H2.out (by have := hall.out; rw [List.take_of_length_le (by have := HE.out.2.2; omega)] at this; exact this))
              clear hall
              go_wp2_with fail
              go_ret
              exact ⟨by rw [hs.out]; rfl, by (repeat' (first | (with_reducible exact Below.refl _ _) | (with_reducible assumption) | (with_reducible refine more_below ?_ ?_ _ _) | (with_reducible refine below_drewN ?_ _) | (with_reducible refine Below.alloc ?_ ?_ _) | (with_reducible refine Below.drew ?_) | (with_reducible refine Below.setCell ?_ ?_ _) | (simp only [World.size_alloc, World.size_setCell, World.size_drew, more_size, World.heap_drewN]; omega) | go_size))⟩
end Go.Proofs.YtjikkipdmonndaaDoor

/- Layer 16: a program's container, plain. -/
namespace Go.Proofs.YtjikkipdmonndaaDoor
open Go.RowKit
set_option linter.unusedSimpArgs false
set_option linter.unusedVariables false
def secL (k : Int) (m : List UInt8) : List UInt8 := byteO k :: (putL 4 m.length ++ m)
def unL (x : Un) : List UInt8 := putL 4 (putU x).length ++ putU x
def unsL (L : List Un) : List UInt8 := L.flatMap unL
def unsB (L : List Un) : List UInt8 := byteO L.length :: unsL L
def okUs (L : List Un) : Bool := decide (L.length ≤ 8) && L.all fitU
def csB (p : Pr) : List UInt8 := putL 2 p.consts.length ++ cstsL p.consts
def vsB (p : Pr) : List UInt8 := putL 2 p.vars.length ++ varsL p.vars
def bsB (p : Pr) : List UInt8 := putL 2 p.blocks.length ++ blksL p.blocks
def magicL : List UInt8 := [76, 66, 75, 49]
def bodyL (p : Pr) : List UInt8 := magicL ++ secL 1 (csB p) ++ secL 2 (vsB p) ++ secL 3 (bsB p) ++ secL 4 (unsB p.units)
def boxL (p : Pr) : List UInt8 := bodyL p ++ putL 4 (crcF (bodyL p))
def fitP (p : Pr) : Bool := okCs p.consts && (okVs p.vars && (okBs p.blocks && okUs p.units))
theorem secL_len (k : Int) (m : List UInt8) : (secL k m).length = m.length + 5 := by
  unfold secL; simp [putL_len]; omega
theorem box_flat {α : Type} (f : α → List UInt8) (c : Nat) (L : List α) (h : ∀ x ∈ L, (f x).length ≤ c) : (L.flatMap f).length ≤ L.length * c := by
  induction L with
  | nil => simp
  | cons x t ih =>
    have h1 := ih (fun y hy => h y (by simp [hy]))
    have h2 := h x (by simp)
    simp only [List.flatMap_cons, List.length_append, List.length_cons, Nat.succ_mul]
    omega
theorem encO_len (L : List Ins) : (encO L).length ≤ L.length * 5 := by
  cases h : L.all rI
  · rw [encO_no h]; simp
  · rw [encO_yes h, enc_len]; omega
theorem putU_len {x : Un} (h : fewU x = true) : (putU x).length ≤ 3200 := by
  have hf : x.name.length ≤ 300 ∧ x.params.length ≤ 20 ∧ x.locals.length ≤ 1100 ∧ x.code.length ≤ 300 := of_decide_eq_true h
  have he := encO_len x.code
  unfold putU
  simp only [List.length_append, List.length_cons, List.length_map, List.length_nil, putL_len]
  omega
theorem box_cstL (x : Int × Int) : (cstL x).length = 9 := by unfold cstL; simp [putL_len]
theorem box_varL (x : Vr) : (varL x).length = x.name.length + 12 := by unfold varL; simp [putL_len]
theorem cut255_len (s : ByteArray) : (cut255 s).data.toList.length ≤ 255 := by
  have e : (cut255 s).data.toList.length = (cut255 s).size := by simp
  rw [e]
  unfold cut255
  split
  · rw [ByteArray.size_extract]; omega
  · omega
theorem box_blkL (x : Bk) : (blkL x).length ≤ 257 := by
  unfold blkL blkB
  have := cut255_len ⟨x.name.toArray⟩
  simp only [List.length_append, List.length_cons, List.length_nil]
  omega
theorem fewP_parts {p : Pr} (h : fewP p = true) : (p.consts.length ≤ 60 ∧ p.vars.length ≤ 70 ∧ p.blocks.length ≤ 40 ∧ p.units.length ≤ 10) ∧ (∀ x ∈ p.vars, x.name.length ≤ 300) ∧ (∀ x ∈ p.blocks, x.name.length ≤ 300) ∧ ∀ x ∈ p.units, fewU x = true := of_decide_eq_true h
theorem unsL_len {L : List Un} (h : ∀ x ∈ L, fewU x = true) : (unsL L).length ≤ L.length * 3204 :=
  box_flat unL 3204 L (fun x hx => by unfold unL; rw [List.length_append, putL_len]; have := putU_len (h x hx); omega)
set_option maxRecDepth 100000 in
theorem body_len {p : Pr} (h : fewP p = true) : (bodyL p).length ≤ 100000 := by
  obtain ⟨⟨h1, h2, h3, h4⟩, h5, h6, h7⟩ := fewP_parts h
  have c1 := box_flat cstL 9 p.consts (fun x _ => by rw [box_cstL]; omega)
  have c2 := box_flat varL 312 p.vars (fun x hx => by rw [box_varL]; have := h5 x hx; omega)
  have c3 := box_flat blkL 257 p.blocks (fun x _ => box_blkL x)
  have c4 := unsL_len h7
  unfold bodyL
  simp only [List.length_append, secL_len]
  unfold csB vsB bsB unsB cstsL varsL blksL magicL
  simp only [List.length_append, List.length_cons, List.length_nil, putL_len]
  have d1 : p.consts.length * 9 ≤ 60 * 9 := Nat.mul_le_mul_right _ h1
  have d2 : p.vars.length * 312 ≤ 70 * 312 := Nat.mul_le_mul_right _ h2
  have d3 : p.blocks.length * 257 ≤ 40 * 257 := Nat.mul_le_mul_right _ h3
  have d4 : p.units.length * 3204 ≤ 10 * 3204 := Nat.mul_le_mul_right _ h4
  generalize p.consts.length * 9 = q1 at *
  generalize p.vars.length * 312 = q2 at *
  generalize p.blocks.length * 257 = q3 at *
  generalize p.units.length * 3204 = q4 at *
  omega
end Go.Proofs.YtjikkipdmonndaaDoor
