/- Layer 6: both, and one of both, in a statement that draws its order. -/
import Derived.Test.YtochjlllfbmhpaaDoorBitOf
import Derived.Test.YtochjlllfbmhpaaDoorBitAnd
import Derived.Test.YtochjlllfbmhpaaDoorBitOr
import Derived.Test.YtochjlllfbmhpaaDoorFacts
namespace Go.Proofs.YtochjlllfbmhpaaDoor
open Go.RowKit
set_option linter.unusedSimpArgs false
set_option linter.unusedVariables false
/-- a box that was just made -/
def Box0 (W v : World) (u : Value) : Prop := ∃ p, u = .pointer (some ⟨p, 0, none⟩) ∧ W.heap.size ≤ p ∧ v.heap[p]? = some (.cells #[.int .i64 0, .slice none 0 0] 26)
/-- a box, and that it was just made, if so -/
def Box6 (W v : World) (u : Value) (b : Bool) : Prop := ∃ p, u = .pointer (some ⟨p, 0, none⟩) ∧ p < v.heap.size ∧ (b = false → W.heap.size ≤ p ∧ v.heap[p]? = some (.cells #[.int .i64 0, .slice none 0 0] 26))
theorem Box6.below {W v v' : World} {u : Value} {b : Bool} (h : Box6 W v u b) (hb : Below v.heap.size v v') : Box6 W v' u b := by
  obtain ⟨p, h1, h2, h3⟩ := h
  exact ⟨p, h1, Nat.lt_of_lt_of_le h2 hb.size, fun e => ⟨(h3 e).1, obj_below (h3 e).2 hb h2⟩⟩
theorem Box6.off {W v v' : World} {u : Value} {b b' : Bool} (h : Box6 W v u b) (hs : v'.heap.size = v.heap.size) (hb : b' = true) : Box6 W v' u b' := by
  obtain ⟨p, h1, h2, h3⟩ := h
  exact ⟨p, h1, by rw [hs]; exact h2, fun e => by rw [hb] at e; cases e⟩
theorem box6_ne {W v : World} {u : Value} {b : Bool} (h : Box6 W v u b) : Value.pointer (some ⟨v.heap.size, 0, none⟩) ≠ u := by
  obtain ⟨p, h1, h2, h3⟩ := h
  intro e
  rw [h1] at e
  injection e with e
  injection e with e
  injection e with e
  omega
/-- a box with a set -/
def Box1 (W v : World) (u : Value) (n : Nat) (x : List Bool) : Prop := ∃ p g m, u = .pointer (some ⟨p, 0, none⟩) ∧ W.heap.size ≤ p ∧ v.heap[p]? = some (.cells #[.int .i64 n, .slice (some ⟨g, 0, none⟩) m m] 26) ∧ SetR v (.agg #[.int .i64 n, .slice (some ⟨g, 0, none⟩) m m]) x
theorem Box0.below {W v v' : World} {u : Value} (h : Box0 W v u) (hb : Below v.heap.size v v') : Box0 W v' u := by
  obtain ⟨p, h1, h2, h3⟩ := h
  exact ⟨p, h1, h2, obj_below h3 hb (heap_lt h3)⟩
theorem Box1.below {W v v' : World} {u : Value} {n : Nat} {x : List Bool} (h : Box1 W v u n x) (hb : Below v.heap.size v v') : Box1 W v' u n x := by
  obtain ⟨p, g, m, h1, h2, h3, h4⟩ := h
  exact ⟨p, g, m, h1, h2, obj_below h3 hb (heap_lt h3), h4.below hb⟩
theorem box0_ne {W v : World} {u : Value} (h : Box0 W v u) : Value.pointer (some ⟨v.heap.size, 0, none⟩) ≠ u := by
  obtain ⟨p, h1, h2, h3⟩ := h
  intro e
  rw [h1] at e
  have := heap_lt h3
  injection e with e
  injection e with e
  injection e with e
  omega
theorem box0_new {W v : World} {u : Value} (h : Box0 W v u) : u ≠ Value.pointer (some ⟨v.heap.size, 0, none⟩) := fun e => box0_ne h e.symm
theorem Box0.set_other {W v : World} {u : Value} (h : Box0 W v u) {p i : Nat} {x : Value} (hne : u ≠ .pointer (some ⟨p, 0, none⟩)) : Box0 W (v.setCell ⟨p, i, none⟩ x) u := by
  obtain ⟨p', h1, h2, h3⟩ := h
  refine ⟨p', h1, h2, ?_⟩
  rw [get_set (show (⟨p, i, none⟩ : Addr).block ≠ p' from fun e => hne (by rw [h1, ← show p = p' from e]))]
  exact h3
theorem Box1.set_other {W v : World} {u : Value} {n : Nat} {s : List Bool} (h : Box1 W v u n s) {p i : Nat} {z : Int} {a : Option Addr} {q c : Nat} {T : TypeId} {x : Value} (hp : v.heap[p]? = some (.cells #[.int .i64 z, .slice a q c] T)) (hne : .pointer (some ⟨p, 0, none⟩) ≠ u) : Box1 W (v.setCell ⟨p, i, none⟩ x) u n s := by
  obtain ⟨p', g, m, h1, h2, h3, h4⟩ := h
  refine ⟨p', g, m, h1, h2, ?_, h4.put hp⟩
  rw [get_set (show (⟨p, i, none⟩ : Addr).block ≠ p' from fun e => hne (by rw [h1, ← show p = p' from e]))]
  exact h3
set_option maxRecDepth 100000 in
set_option maxHeartbeats 4000000 in
theorem join_r5 (WB : World) (P7 P9 : Nat) (n n2 nA nO : Nat) (a a2 : Option Addr) (q c q2 c2 : Nat) (x y : List Bool) (z7 : P7 < WB.heap.size) (z9 : P9 < WB.heap.size) (c70 : WB.cell? ⟨P7, 0, none⟩ = some (.int .i64 n)) (c71 : WB.cell? ⟨P7, 1, none⟩ = some (.slice a q c)) (c90 : WB.cell? ⟨P9, 0, none⟩ = some (.int .i64 n2)) (c91 : WB.cell? ⟨P9, 1, none⟩ = some (.slice a2 q2 c2)) (HX : Hid (SetR WB (.agg #[.int .i64 n, .slice a q c]) x)) (HY : Hid (SetR WB (.agg #[.int .i64 n2, .slice a2 q2 c2]) y)) (HnA : Hid ((andB x y).length = nA)) (HnO : Hid ((orB x y).length = nO)) (t0 t1 t2 t3 t4 t5 t6 t8 t10 t11 t12 t13 t14 t15 t16 t17 t18 t19 t20 t21 t22 t23 t24 t25 t26 t27 t28 t29 t30 t31 t32 t33 t34 t35 t36 t37 t38 t39 t40 t41 t42 t43 t44 t45 t46 t47 t48 t49 t50 t51 t52 t53 t54 t55 t56 t57 t58 t59 t60 t61 t62 t63 t64 t65 t66 t67 t68 t69 t70 t71 t72 t73 t74 t75 t76 t77 t78 t79 t80 t81 t82 t83 t84 t85 t86 t87 t88 t89 t90 t91 t92 t93 t94 t95 t96 t97 t98 t99 t100 t101 t102 t103 t104 t105 t106 t107 : Value) :
    (Code.region 5 #[{ dst := some 46, op := Op.load 26 (Operand.tmp 7), type := 26, pos := "law.go:55", after := #[], guard := none }, { dst := some 47, op := Op.load 26 (Operand.tmp 9), type := 26, pos := "law.go:55", after := #[], guard := none }, { dst := some 48, op := Op.call { callee := Callee.value (Operand.func 14), args := #[Operand.tmp 46, Operand.tmp 47], argTypes := #[26, 26] }, type := 26, pos := "law.go:55", after := #[{ on := 0, ground := Ground.data }, { on := 1, ground := Ground.data }], guard := none }, { dst := some 49, op := Op.load 26 (Operand.tmp 7), type := 26, pos := "law.go:55", after := #[], guard := none }, { dst := some 50, op := Op.load 26 (Operand.tmp 9), type := 26, pos := "law.go:55", after := #[], guard := none }, { dst := some 51, op := Op.call { callee := Callee.value (Operand.func 15), args := #[Operand.tmp 49, Operand.tmp 50], argTypes := #[26, 26] }, type := 26, pos := "law.go:55", after := #[{ on := 3, ground := Ground.data }, { on := 4, ground := Ground.data }, { on := 2, ground := Ground.chain }], guard := none }, { dst := some 11, op := Op.alloc 26, type := 0, pos := "law.go:55", after := #[], guard := none }, { dst := some 12, op := Op.alloc 26, type := 0, pos := "law.go:55", after := #[], guard := none }, { dst := none, op := Op.store 26 (Operand.tmp 11) (Operand.tmp 48), type := 0, pos := "law.go:55", after := #[{ on := 6, ground := Ground.data }, { on := 2, ground := Ground.data }, { on := 5, ground := Ground.chain }, { on := 0, ground := Ground.phase }, { on := 1, ground := Ground.phase }, { on := 2, ground := Ground.phase }, { on := 3, ground := Ground.textOnly Departure.lateStores }, { on := 4, ground := Ground.textOnly Departure.lateStores }, { on := 5, ground := Ground.textOnly Departure.lateStoresUnsure }, { on := 6, ground := Ground.phase }, { on := 7, ground := Ground.phase }], guard := none }, { dst := none, op := Op.store 26 (Operand.tmp 12) (Operand.tmp 51), type := 0, pos := "law.go:55", after := #[{ on := 7, ground := Ground.data }, { on := 5, ground := Ground.data }, { on := 8, ground := Ground.chain }, { on := 0, ground := Ground.phase }, { on := 1, ground := Ground.phase }, { on := 2, ground := Ground.phase }, { on := 3, ground := Ground.phase }, { on := 4, ground := Ground.phase }, { on := 5, ground := Ground.phase }, { on := 6, ground := Ground.phase }, { on := 7, ground := Ground.phase }, { on := 8, ground := Ground.phase }], guard := none }] true).wp Tryd.prog (fun e b v => e = Exit.normal ∧ ∃ u11 u12 u46 u47 u48 u49 u50 u51 : Value, b = ⟨#[t0, t1, t2, t3, t4, t5, t6, .pointer (some ⟨P7, 0, none⟩), t8, .pointer (some ⟨P9, 0, none⟩), t10, u11, u12, t13, t14, t15, t16, t17, t18, t19, t20, t21, t22, t23, t24, t25, t26, t27, t28, t29, t30, t31, t32, t33, t34, t35, t36, t37, t38, t39, t40, t41, t42, t43, t44, t45, u46, u47, u48, u49, u50, u51, t52, t53, t54, t55, t56, t57, t58, t59, t60, t61, t62, t63, t64, t65, t66, t67, t68, t69, t70, t71, t72, t73, t74, t75, t76, t77, t78, t79, t80, t81, t82, t83, t84, t85, t86, t87, t88, t89, t90, t91, t92, t93, t94, t95, t96, t97, t98, t99, t100, t101, t102, t103, t104, t105, t106, t107], []⟩ ∧ Below WB.heap.size WB v ∧ (Box1 WB v u11 nA (andB x y)) ∧ (Box1 WB v u12 nO (orB x y))) ⟨#[t0, t1, t2, t3, t4, t5, t6, .pointer (some ⟨P7, 0, none⟩), t8, .pointer (some ⟨P9, 0, none⟩), t10, t11, t12, t13, t14, t15, t16, t17, t18, t19, t20, t21, t22, t23, t24, t25, t26, t27, t28, t29, t30, t31, t32, t33, t34, t35, t36, t37, t38, t39, t40, t41, t42, t43, t44, t45, t46, t47, t48, t49, t50, t51, t52, t53, t54, t55, t56, t57, t58, t59, t60, t61, t62, t63, t64, t65, t66, t67, t68, t69, t70, t71, t72, t73, t74, t75, t76, t77, t78, t79, t80, t81, t82, t83, t84, t85, t86, t87, t88, t89, t90, t91, t92, t93, t94, t95, t96, t97, t98, t99, t100, t101, t102, t103, t104, t105, t106, t107], []⟩ WB := by
  refine wp_region_facts (n := 10) (fun L b v => ∃ u11 u12 u46 u47 u48 u49 u50 u51 : Value, b = ⟨#[t0, t1, t2, t3, t4, t5, t6, .pointer (some ⟨P7, 0, none⟩), t8, .pointer (some ⟨P9, 0, none⟩), t10, u11, u12, t13, t14, t15, t16, t17, t18, t19, t20, t21, t22, t23, t24, t25, t26, t27, t28, t29, t30, t31, t32, t33, t34, t35, t36, t37, t38, t39, t40, t41, t42, t43, t44, t45, u46, u47, u48, u49, u50, u51, t52, t53, t54, t55, t56, t57, t58, t59, t60, t61, t62, t63, t64, t65, t66, t67, t68, t69, t70, t71, t72, t73, t74, t75, t76, t77, t78, t79, t80, t81, t82, t83, t84, t85, t86, t87, t88, t89, t90, t91, t92, t93, t94, t95, t96, t97, t98, t99, t100, t101, t102, t103, t104, t105, t106, t107], []⟩ ∧ Below WB.heap.size WB v ∧ (L.getD 0 false = true → u46 = .agg #[.int .i64 n, .slice a q c]) ∧ (L.getD 1 false = true → u47 = .agg #[.int .i64 n2, .slice a2 q2 c2]) ∧ (L.getD 2 false = true → L.getD 8 true = false → ∃ g m, u48 = .agg #[.int .i64 nA, .slice (some ⟨g, 0, none⟩) m m] ∧ SetR v u48 (andB x y)) ∧ (L.getD 3 false = true → u49 = .agg #[.int .i64 n, .slice a q c]) ∧ (L.getD 4 false = true → u50 = .agg #[.int .i64 n2, .slice a2 q2 c2]) ∧ (L.getD 5 false = true → L.getD 9 true = false → ∃ g m, u51 = .agg #[.int .i64 nO, .slice (some ⟨g, 0, none⟩) m m] ∧ SetR v u51 (orB x y)) ∧ (L.getD 6 false = true → Box6 WB v u11 (L.getD 8 false)) ∧ (L.getD 7 false = true → L.getD 9 true = false → Box0 WB v u12 ∧ (L.getD 6 false = true → u12 ≠ u11)) ∧ (L.getD 8 false = true → Box1 WB v u11 nA (andB x y)) ∧ (L.getD 9 false = true → Box1 WB v u12 nO (orB x y))) (by kernel_rfl) (by kernel_rfl) (by kernel_rfl) ?_ ?_ ?_
  · refine ⟨_, _, _, _, _, _, _, _, rfl, (Below.refl _ _).drew, flag_new, flag_new, flag_new, flag_new, flag_new, flag_new, flag_new, flag_new, flag_new, flag_new⟩
  · refine AllSteps.succ (AllSteps.succ (AllSteps.succ (AllSteps.succ (AllSteps.succ (AllSteps.succ (AllSteps.succ (AllSteps.succ (AllSteps.succ (AllSteps.succ AllSteps.zero ?_) ?_) ?_) ?_) ?_) ?_) ?_) ?_) ?_) ?_
    · refine StepAt.mk (o := { dst := some 46, op := Op.load 26 (Operand.tmp 7), type := 26, pos := _, after := #[], guard := none }) (ws := []) rfl (by kernel_rfl) ?_
      intro L b v hC h0 hA h
      refine h.elim ?_; clear h; intro u11 h
      refine h.elim ?_; clear h; intro u12 h
      refine h.elim ?_; clear h; intro u46 h
      refine h.elim ?_; clear h; intro u47 h
      refine h.elim ?_; clear h; intro u48 h
      refine h.elim ?_; clear h; intro u49 h
      refine h.elim ?_; clear h; intro u50 h
      refine h.elim ?_; clear h; intro u51 h
      have hbb := h.1; replace h := h.2; subst hbb
      have hHeld := h.1; replace h := h.2
      have f0 := h.1; replace h := h.2
      have f1 := h.1; replace h := h.2
      have f2 := h.1; replace h := h.2
      have f3 := h.1; replace h := h.2
      have f4 := h.1; replace h := h.2
      have f5 := h.1; replace h := h.2
      have f6 := h.1; replace h := h.2
      have f7 := h.1; replace h := h.2
      have f8 := h.1; replace h := h.2
      have f9 := h; clear h
      intro K hK
      rw [if_pos (by kernel_rfl)]
      have q0 := cellB hHeld c70 z7
      have q1 := cellB hHeld c71 z7
      have q2 := cellB hHeld c90 z9
      have q3 := cellB hHeld c91 z9
      go_simp
      try simp only [Act.put, List.setIfInBounds_toArray, List.set_cons_zero, List.set_cons_succ]
      refine hK.out _ _ ⟨_, _, _, _, _, _, _, _, rfl, ?_, ?_, ?_, ?_, ?_, ?_, ?_, ?_, ?_, ?_, ?_⟩
      · first | exact hHeld | exact hHeld.trans (hb.mono hHeld.size) | (trace_state; fail)
      · intro _; first | rfl | (trace_state; fail)
      · first | exact flag_ne (by decide) f1 | exact fun _ => rfl
      · intro h _; rw [getD_set_ne false (by decide)] at h; exact (getD_no h0 (hC.step (j := 2) (k := 0) h (by kernel_rfl))).elim
      · first | exact flag_ne (by decide) f3 | exact fun _ => rfl
      · first | exact flag_ne (by decide) f4 | exact fun _ => rfl
      · intro h _; rw [getD_set_ne false (by decide)] at h; exact (getD_no h0 (hC.step (j := 2) (k := 0) (hC.step (j := 5) (k := 2) h (by kernel_rfl)) (by kernel_rfl))).elim
      · intro h; rw [getD_set_ne false (by decide)] at h; have := f6 h; first | (rw [getD_set_ne false (by decide)]; first | exact this | exact this.below hb) | (trace_state; fail)
      · intro h h7; rw [getD_set_ne false (by decide)] at h; rw [getD_set_ne true (by decide)] at h7; have := f7 h h7; first | exact ⟨this.1, fun h9 => this.2 (by rwa [getD_set_ne false (by decide)] at h9)⟩ | exact ⟨this.1.below hb, fun h9 => this.2 (by rwa [getD_set_ne false (by decide)] at h9)⟩ | (trace_state; fail)
      · intro h; rw [getD_set_ne false (by decide)] at h; exact (getD_no h0 (hC.step (j := 8) (k := 0) h (by kernel_rfl))).elim
      · intro h; rw [getD_set_ne false (by decide)] at h; exact (getD_no h0 (hC.step (j := 9) (k := 0) h (by kernel_rfl))).elim
    · refine StepAt.mk (o := { dst := some 47, op := Op.load 26 (Operand.tmp 9), type := 26, pos := _, after := #[], guard := none }) (ws := []) rfl (by kernel_rfl) ?_
      intro L b v hC h0 hA h
      refine h.elim ?_; clear h; intro u11 h
      refine h.elim ?_; clear h; intro u12 h
      refine h.elim ?_; clear h; intro u46 h
      refine h.elim ?_; clear h; intro u47 h
      refine h.elim ?_; clear h; intro u48 h
      refine h.elim ?_; clear h; intro u49 h
      refine h.elim ?_; clear h; intro u50 h
      refine h.elim ?_; clear h; intro u51 h
      have hbb := h.1; replace h := h.2; subst hbb
      have hHeld := h.1; replace h := h.2
      have f0 := h.1; replace h := h.2
      have f1 := h.1; replace h := h.2
      have f2 := h.1; replace h := h.2
      have f3 := h.1; replace h := h.2
      have f4 := h.1; replace h := h.2
      have f5 := h.1; replace h := h.2
      have f6 := h.1; replace h := h.2
      have f7 := h.1; replace h := h.2
      have f8 := h.1; replace h := h.2
      have f9 := h; clear h
      intro K hK
      rw [if_pos (by kernel_rfl)]
      have q0 := cellB hHeld c70 z7
      have q1 := cellB hHeld c71 z7
      have q2 := cellB hHeld c90 z9
      have q3 := cellB hHeld c91 z9
      go_simp
      try simp only [Act.put, List.setIfInBounds_toArray, List.set_cons_zero, List.set_cons_succ]
      refine hK.out _ _ ⟨_, _, _, _, _, _, _, _, rfl, ?_, ?_, ?_, ?_, ?_, ?_, ?_, ?_, ?_, ?_, ?_⟩
      · first | exact hHeld | exact hHeld.trans (hb.mono hHeld.size) | (trace_state; fail)
      · first | exact flag_ne (by decide) f0 | exact fun _ => rfl
      · intro _; first | rfl | (trace_state; fail)
      · intro h _; rw [getD_set_ne false (by decide)] at h; exact (getD_no h0 (hC.step (j := 2) (k := 1) h (by kernel_rfl))).elim
      · first | exact flag_ne (by decide) f3 | exact fun _ => rfl
      · first | exact flag_ne (by decide) f4 | exact fun _ => rfl
      · intro h _; rw [getD_set_ne false (by decide)] at h; exact (getD_no h0 (hC.step (j := 2) (k := 1) (hC.step (j := 5) (k := 2) h (by kernel_rfl)) (by kernel_rfl))).elim
      · intro h; rw [getD_set_ne false (by decide)] at h; have := f6 h; first | (rw [getD_set_ne false (by decide)]; first | exact this | exact this.below hb) | (trace_state; fail)
      · intro h h7; rw [getD_set_ne false (by decide)] at h; rw [getD_set_ne true (by decide)] at h7; have := f7 h h7; first | exact ⟨this.1, fun h9 => this.2 (by rwa [getD_set_ne false (by decide)] at h9)⟩ | exact ⟨this.1.below hb, fun h9 => this.2 (by rwa [getD_set_ne false (by decide)] at h9)⟩ | (trace_state; fail)
      · intro h; rw [getD_set_ne false (by decide)] at h; exact (getD_no h0 (hC.step (j := 8) (k := 1) h (by kernel_rfl))).elim
      · intro h; rw [getD_set_ne false (by decide)] at h; exact (getD_no h0 (hC.step (j := 9) (k := 1) h (by kernel_rfl))).elim
    · refine StepAt.mk (o := { dst := some 48, op := Op.call { callee := Callee.value (Operand.func 14), args := #[Operand.tmp 46, Operand.tmp 47], argTypes := #[26, 26] }, type := 26, pos := _, after := #[{ on := 0, ground := Ground.data }, { on := 1, ground := Ground.data }], guard := none }) (ws := [0, 1]) rfl (by kernel_rfl) ?_
      intro L b v hC h0 hA h
      refine h.elim ?_; clear h; intro u11 h
      refine h.elim ?_; clear h; intro u12 h
      refine h.elim ?_; clear h; intro u46 h
      refine h.elim ?_; clear h; intro u47 h
      refine h.elim ?_; clear h; intro u48 h
      refine h.elim ?_; clear h; intro u49 h
      refine h.elim ?_; clear h; intro u50 h
      refine h.elim ?_; clear h; intro u51 h
      have hbb := h.1; replace h := h.2; subst hbb
      have hHeld := h.1; replace h := h.2
      have f0 := h.1; replace h := h.2
      have f1 := h.1; replace h := h.2
      have f2 := h.1; replace h := h.2
      have f3 := h.1; replace h := h.2
      have f4 := h.1; replace h := h.2
      have f5 := h.1; replace h := h.2
      have f6 := h.1; replace h := h.2
      have f7 := h.1; replace h := h.2
      have f8 := h.1; replace h := h.2
      have f9 := h; clear h
      intro K hK
      have g0 := f0 (hA 0 (by simp))
      obtain rfl := g0
      have g1 := f1 (hA 1 (by simp))
      obtain rfl := g1
      rw [if_pos (by kernel_rfl)]
      have q0 := cellB hHeld c70 z7
      have q1 := cellB hHeld c71 z7
      have q2 := cellB hHeld c90 z9
      have q3 := cellB hHeld c91 z9
      go_simp
      refine (bits_And _ _ x y v (HX.out.below hHeld) (HY.out.below hHeld)).mono ?_; rintro e v1 ⟨g0, m0, rfl, hS, hb⟩; rw [HnA.out] at hS ⊢
      go_wp2_with fail
      try simp only [Act.put, List.setIfInBounds_toArray, List.set_cons_zero, List.set_cons_succ]
      refine hK.out _ _ ⟨_, _, _, _, _, _, _, _, rfl, ?_, ?_, ?_, ?_, ?_, ?_, ?_, ?_, ?_, ?_, ?_⟩
      · first | exact hHeld | exact hHeld.trans (hb.mono hHeld.size) | (trace_state; fail)
      · first | exact flag_ne (by decide) f0 | exact fun _ => rfl
      · first | exact flag_ne (by decide) f1 | exact fun _ => rfl
      · intro _ _; first | (exact ⟨_, _, rfl, hS⟩) | (trace_state; fail)
      · first | exact flag_ne (by decide) f3 | exact fun _ => rfl
      · first | exact flag_ne (by decide) f4 | exact fun _ => rfl
      · intro h _; rw [getD_set_ne false (by decide)] at h; exact (getD_no h0 (hC.step (j := 5) (k := 2) h (by kernel_rfl))).elim
      · intro h; rw [getD_set_ne false (by decide)] at h; have := f6 h; first | (rw [getD_set_ne false (by decide)]; first | exact this | exact this.below hb) | (trace_state; fail)
      · intro h h7; rw [getD_set_ne false (by decide)] at h; rw [getD_set_ne true (by decide)] at h7; have := f7 h h7; first | exact ⟨this.1, fun h9 => this.2 (by rwa [getD_set_ne false (by decide)] at h9)⟩ | exact ⟨this.1.below hb, fun h9 => this.2 (by rwa [getD_set_ne false (by decide)] at h9)⟩ | (trace_state; fail)
      · intro h; rw [getD_set_ne false (by decide)] at h; exact (getD_no h0 (hC.step (j := 8) (k := 2) h (by kernel_rfl))).elim
      · intro h; rw [getD_set_ne false (by decide)] at h; exact (getD_no h0 (hC.step (j := 9) (k := 2) h (by kernel_rfl))).elim
    · refine StepAt.mk (o := { dst := some 49, op := Op.load 26 (Operand.tmp 7), type := 26, pos := _, after := #[], guard := none }) (ws := []) rfl (by kernel_rfl) ?_
      intro L b v hC h0 hA h
      refine h.elim ?_; clear h; intro u11 h
      refine h.elim ?_; clear h; intro u12 h
      refine h.elim ?_; clear h; intro u46 h
      refine h.elim ?_; clear h; intro u47 h
      refine h.elim ?_; clear h; intro u48 h
      refine h.elim ?_; clear h; intro u49 h
      refine h.elim ?_; clear h; intro u50 h
      refine h.elim ?_; clear h; intro u51 h
      have hbb := h.1; replace h := h.2; subst hbb
      have hHeld := h.1; replace h := h.2
      have f0 := h.1; replace h := h.2
      have f1 := h.1; replace h := h.2
      have f2 := h.1; replace h := h.2
      have f3 := h.1; replace h := h.2
      have f4 := h.1; replace h := h.2
      have f5 := h.1; replace h := h.2
      have f6 := h.1; replace h := h.2
      have f7 := h.1; replace h := h.2
      have f8 := h.1; replace h := h.2
      have f9 := h; clear h
      intro K hK
      rw [if_pos (by kernel_rfl)]
      have q0 := cellB hHeld c70 z7
      have q1 := cellB hHeld c71 z7
      have q2 := cellB hHeld c90 z9
      have q3 := cellB hHeld c91 z9
      go_simp
      try simp only [Act.put, List.setIfInBounds_toArray, List.set_cons_zero, List.set_cons_succ]
      refine hK.out _ _ ⟨_, _, _, _, _, _, _, _, rfl, ?_, ?_, ?_, ?_, ?_, ?_, ?_, ?_, ?_, ?_, ?_⟩
      · first | exact hHeld | exact hHeld.trans (hb.mono hHeld.size) | (trace_state; fail)
      · first | exact flag_ne (by decide) f0 | exact fun _ => rfl
      · first | exact flag_ne (by decide) f1 | exact fun _ => rfl
      · intro h h7; rw [getD_set_ne false (by decide)] at h; rw [getD_set_ne true (by decide)] at h7; have := f2 h h7; first | exact this | (obtain ⟨g, m, z1, z2⟩ := this; exact ⟨g, m, z1, z2.below hb⟩) | (trace_state; fail)
      · intro _; first | rfl | (trace_state; fail)
      · first | exact flag_ne (by decide) f4 | exact fun _ => rfl
      · intro h _; rw [getD_set_ne false (by decide)] at h; exact (getD_no h0 (hC.step (j := 5) (k := 3) h (by kernel_rfl))).elim
      · intro h; rw [getD_set_ne false (by decide)] at h; have := f6 h; first | (rw [getD_set_ne false (by decide)]; first | exact this | exact this.below hb) | (trace_state; fail)
      · intro h h7; rw [getD_set_ne false (by decide)] at h; rw [getD_set_ne true (by decide)] at h7; have := f7 h h7; first | exact ⟨this.1, fun h9 => this.2 (by rwa [getD_set_ne false (by decide)] at h9)⟩ | exact ⟨this.1.below hb, fun h9 => this.2 (by rwa [getD_set_ne false (by decide)] at h9)⟩ | (trace_state; fail)
      · intro h; rw [getD_set_ne false (by decide)] at h; exact (getD_no h0 (hC.step (j := 5) (k := 3) (hC.step (j := 8) (k := 5) h (by kernel_rfl)) (by kernel_rfl))).elim
      · intro h; rw [getD_set_ne false (by decide)] at h; exact (getD_no h0 (hC.step (j := 9) (k := 3) h (by kernel_rfl))).elim
    · refine StepAt.mk (o := { dst := some 50, op := Op.load 26 (Operand.tmp 9), type := 26, pos := _, after := #[], guard := none }) (ws := []) rfl (by kernel_rfl) ?_
      intro L b v hC h0 hA h
      refine h.elim ?_; clear h; intro u11 h
      refine h.elim ?_; clear h; intro u12 h
      refine h.elim ?_; clear h; intro u46 h
      refine h.elim ?_; clear h; intro u47 h
      refine h.elim ?_; clear h; intro u48 h
      refine h.elim ?_; clear h; intro u49 h
      refine h.elim ?_; clear h; intro u50 h
      refine h.elim ?_; clear h; intro u51 h
      have hbb := h.1; replace h := h.2; subst hbb
      have hHeld := h.1; replace h := h.2
      have f0 := h.1; replace h := h.2
      have f1 := h.1; replace h := h.2
      have f2 := h.1; replace h := h.2
      have f3 := h.1; replace h := h.2
      have f4 := h.1; replace h := h.2
      have f5 := h.1; replace h := h.2
      have f6 := h.1; replace h := h.2
      have f7 := h.1; replace h := h.2
      have f8 := h.1; replace h := h.2
      have f9 := h; clear h
      intro K hK
      rw [if_pos (by kernel_rfl)]
      have q0 := cellB hHeld c70 z7
      have q1 := cellB hHeld c71 z7
      have q2 := cellB hHeld c90 z9
      have q3 := cellB hHeld c91 z9
      go_simp
      try simp only [Act.put, List.setIfInBounds_toArray, List.set_cons_zero, List.set_cons_succ]
      refine hK.out _ _ ⟨_, _, _, _, _, _, _, _, rfl, ?_, ?_, ?_, ?_, ?_, ?_, ?_, ?_, ?_, ?_, ?_⟩
      · first | exact hHeld | exact hHeld.trans (hb.mono hHeld.size) | (trace_state; fail)
      · first | exact flag_ne (by decide) f0 | exact fun _ => rfl
      · first | exact flag_ne (by decide) f1 | exact fun _ => rfl
      · intro h h7; rw [getD_set_ne false (by decide)] at h; rw [getD_set_ne true (by decide)] at h7; have := f2 h h7; first | exact this | (obtain ⟨g, m, z1, z2⟩ := this; exact ⟨g, m, z1, z2.below hb⟩) | (trace_state; fail)
      · first | exact flag_ne (by decide) f3 | exact fun _ => rfl
      · intro _; first | rfl | (trace_state; fail)
      · intro h _; rw [getD_set_ne false (by decide)] at h; exact (getD_no h0 (hC.step (j := 5) (k := 4) h (by kernel_rfl))).elim
      · intro h; rw [getD_set_ne false (by decide)] at h; have := f6 h; first | (rw [getD_set_ne false (by decide)]; first | exact this | exact this.below hb) | (trace_state; fail)
      · intro h h7; rw [getD_set_ne false (by decide)] at h; rw [getD_set_ne true (by decide)] at h7; have := f7 h h7; first | exact ⟨this.1, fun h9 => this.2 (by rwa [getD_set_ne false (by decide)] at h9)⟩ | exact ⟨this.1.below hb, fun h9 => this.2 (by rwa [getD_set_ne false (by decide)] at h9)⟩ | (trace_state; fail)
      · intro h; rw [getD_set_ne false (by decide)] at h; exact (getD_no h0 (hC.step (j := 5) (k := 4) (hC.step (j := 8) (k := 5) h (by kernel_rfl)) (by kernel_rfl))).elim
      · intro h; rw [getD_set_ne false (by decide)] at h; exact (getD_no h0 (hC.step (j := 9) (k := 4) h (by kernel_rfl))).elim
    · refine StepAt.mk (o := { dst := some 51, op := Op.call { callee := Callee.value (Operand.func 15), args := #[Operand.tmp 49, Operand.tmp 50], argTypes := #[26, 26] }, type := 26, pos := _, after := #[{ on := 3, ground := Ground.data }, { on := 4, ground := Ground.data }, { on := 2, ground := Ground.chain }], guard := none }) (ws := [3, 4, 2]) rfl (by kernel_rfl) ?_
      intro L b v hC h0 hA h
      refine h.elim ?_; clear h; intro u11 h
      refine h.elim ?_; clear h; intro u12 h
      refine h.elim ?_; clear h; intro u46 h
      refine h.elim ?_; clear h; intro u47 h
      refine h.elim ?_; clear h; intro u48 h
      refine h.elim ?_; clear h; intro u49 h
      refine h.elim ?_; clear h; intro u50 h
      refine h.elim ?_; clear h; intro u51 h
      have hbb := h.1; replace h := h.2; subst hbb
      have hHeld := h.1; replace h := h.2
      have f0 := h.1; replace h := h.2
      have f1 := h.1; replace h := h.2
      have f2 := h.1; replace h := h.2
      have f3 := h.1; replace h := h.2
      have f4 := h.1; replace h := h.2
      have f5 := h.1; replace h := h.2
      have f6 := h.1; replace h := h.2
      have f7 := h.1; replace h := h.2
      have f8 := h.1; replace h := h.2
      have f9 := h; clear h
      intro K hK
      have g3 := f3 (hA 3 (by simp))
      obtain rfl := g3
      have g4 := f4 (hA 4 (by simp))
      obtain rfl := g4
      have g2 := f2 (hA 2 (by simp))
      rw [if_pos (by kernel_rfl)]
      have q0 := cellB hHeld c70 z7
      have q1 := cellB hHeld c71 z7
      have q2 := cellB hHeld c90 z9
      have q3 := cellB hHeld c91 z9
      go_simp
      refine (bits_Or _ _ x y v (HX.out.below hHeld) (HY.out.below hHeld)).mono ?_; rintro e v1 ⟨g0, m0, rfl, hS, hb⟩; rw [HnO.out] at hS ⊢
      go_wp2_with fail
      try simp only [Act.put, List.setIfInBounds_toArray, List.set_cons_zero, List.set_cons_succ]
      refine hK.out _ _ ⟨_, _, _, _, _, _, _, _, rfl, ?_, ?_, ?_, ?_, ?_, ?_, ?_, ?_, ?_, ?_, ?_⟩
      · first | exact hHeld | exact hHeld.trans (hb.mono hHeld.size) | (trace_state; fail)
      · first | exact flag_ne (by decide) f0 | exact fun _ => rfl
      · first | exact flag_ne (by decide) f1 | exact fun _ => rfl
      · intro h h7; rw [getD_set_ne false (by decide)] at h; rw [getD_set_ne true (by decide)] at h7; have := f2 h h7; first | exact this | (obtain ⟨g, m, z1, z2⟩ := this; exact ⟨g, m, z1, z2.below hb⟩) | (trace_state; fail)
      · first | exact flag_ne (by decide) f3 | exact fun _ => rfl
      · first | exact flag_ne (by decide) f4 | exact fun _ => rfl
      · intro _ _; first | (exact ⟨_, _, rfl, hS⟩) | (trace_state; fail)
      · intro h; rw [getD_set_ne false (by decide)] at h; have := f6 h; first | (rw [getD_set_ne false (by decide)]; first | exact this | exact this.below hb) | (trace_state; fail)
      · intro h h7; rw [getD_set_ne false (by decide)] at h; rw [getD_set_ne true (by decide)] at h7; have := f7 h h7; first | exact ⟨this.1, fun h9 => this.2 (by rwa [getD_set_ne false (by decide)] at h9)⟩ | exact ⟨this.1.below hb, fun h9 => this.2 (by rwa [getD_set_ne false (by decide)] at h9)⟩ | (trace_state; fail)
      · intro h; rw [getD_set_ne false (by decide)] at h; exact (getD_no h0 (hC.step (j := 8) (k := 5) h (by kernel_rfl))).elim
      · intro h; rw [getD_set_ne false (by decide)] at h; exact (getD_no h0 (hC.step (j := 9) (k := 5) h (by kernel_rfl))).elim
    · refine StepAt.mk (o := { dst := some 11, op := Op.alloc 26, type := 0, pos := _, after := #[], guard := none }) (ws := []) rfl (by kernel_rfl) ?_
      intro L b v hC h0 hA h
      refine h.elim ?_; clear h; intro u11 h
      refine h.elim ?_; clear h; intro u12 h
      refine h.elim ?_; clear h; intro u46 h
      refine h.elim ?_; clear h; intro u47 h
      refine h.elim ?_; clear h; intro u48 h
      refine h.elim ?_; clear h; intro u49 h
      refine h.elim ?_; clear h; intro u50 h
      refine h.elim ?_; clear h; intro u51 h
      have hbb := h.1; replace h := h.2; subst hbb
      have hHeld := h.1; replace h := h.2
      have f0 := h.1; replace h := h.2
      have f1 := h.1; replace h := h.2
      have f2 := h.1; replace h := h.2
      have f3 := h.1; replace h := h.2
      have f4 := h.1; replace h := h.2
      have f5 := h.1; replace h := h.2
      have f6 := h.1; replace h := h.2
      have f7 := h.1; replace h := h.2
      have f8 := h.1; replace h := h.2
      have f9 := h; clear h
      intro K hK
      rw [if_pos (by kernel_rfl)]
      have q0 := cellB hHeld c70 z7
      have q1 := cellB hHeld c71 z7
      have q2 := cellB hHeld c90 z9
      have q3 := cellB hHeld c91 z9
      go_simp
      try simp only [Act.put, List.setIfInBounds_toArray, List.set_cons_zero, List.set_cons_succ]
      have hb : Below v.heap.size v (v.alloc (.cells #[.int .i64 0, .slice none 0 0] 26)) := (Below.refl _ _).alloc (Nat.le_refl _) _
      refine hK.out _ _ ⟨_, _, _, _, _, _, _, _, rfl, ?_, ?_, ?_, ?_, ?_, ?_, ?_, ?_, ?_, ?_, ?_⟩
      · exact hHeld.alloc hHeld.size _
      · first | exact flag_ne (by decide) f0 | exact fun _ => rfl
      · first | exact flag_ne (by decide) f1 | exact fun _ => rfl
      · intro h h7; rw [getD_set_ne false (by decide)] at h; rw [getD_set_ne true (by decide)] at h7; have := f2 h h7; first | exact this | (obtain ⟨g, m, z1, z2⟩ := this; exact ⟨g, m, z1, z2.below hb⟩) | (trace_state; fail)
      · first | exact flag_ne (by decide) f3 | exact fun _ => rfl
      · first | exact flag_ne (by decide) f4 | exact fun _ => rfl
      · intro h h7; rw [getD_set_ne false (by decide)] at h; rw [getD_set_ne true (by decide)] at h7; have := f5 h h7; first | exact this | (obtain ⟨g, m, z1, z2⟩ := this; exact ⟨g, m, z1, z2.below hb⟩) | (trace_state; fail)
      · intro _; first | exact ⟨_, rfl, by simp, fun _ => ⟨hHeld.size, get_last rfl⟩⟩ | (trace_state; fail)
      · intro h h7; rw [getD_set_ne false (by decide)] at h; rw [getD_set_ne true (by decide)] at h7; have := f7 h h7; exact ⟨this.1.below hb, fun _ => box0_new this.1⟩
      · intro h; rw [getD_set_ne false (by decide)] at h; exact (getD_no h0 (hC.step (j := 8) (k := 6) h (by kernel_rfl))).elim
      · intro h; rw [getD_set_ne false (by decide)] at h; exact (getD_no h0 (hC.step (j := 9) (k := 6) h (by kernel_rfl))).elim
    · refine StepAt.mk (o := { dst := some 12, op := Op.alloc 26, type := 0, pos := _, after := #[], guard := none }) (ws := []) rfl (by kernel_rfl) ?_
      intro L b v hC h0 hA h
      refine h.elim ?_; clear h; intro u11 h
      refine h.elim ?_; clear h; intro u12 h
      refine h.elim ?_; clear h; intro u46 h
      refine h.elim ?_; clear h; intro u47 h
      refine h.elim ?_; clear h; intro u48 h
      refine h.elim ?_; clear h; intro u49 h
      refine h.elim ?_; clear h; intro u50 h
      refine h.elim ?_; clear h; intro u51 h
      have hbb := h.1; replace h := h.2; subst hbb
      have hHeld := h.1; replace h := h.2
      have f0 := h.1; replace h := h.2
      have f1 := h.1; replace h := h.2
      have f2 := h.1; replace h := h.2
      have f3 := h.1; replace h := h.2
      have f4 := h.1; replace h := h.2
      have f5 := h.1; replace h := h.2
      have f6 := h.1; replace h := h.2
      have f7 := h.1; replace h := h.2
      have f8 := h.1; replace h := h.2
      have f9 := h; clear h
      intro K hK
      rw [if_pos (by kernel_rfl)]
      have q0 := cellB hHeld c70 z7
      have q1 := cellB hHeld c71 z7
      have q2 := cellB hHeld c90 z9
      have q3 := cellB hHeld c91 z9
      go_simp
      try simp only [Act.put, List.setIfInBounds_toArray, List.set_cons_zero, List.set_cons_succ]
      have hb : Below v.heap.size v (v.alloc (.cells #[.int .i64 0, .slice none 0 0] 26)) := (Below.refl _ _).alloc (Nat.le_refl _) _
      refine hK.out _ _ ⟨_, _, _, _, _, _, _, _, rfl, ?_, ?_, ?_, ?_, ?_, ?_, ?_, ?_, ?_, ?_, ?_⟩
      · exact hHeld.alloc hHeld.size _
      · first | exact flag_ne (by decide) f0 | exact fun _ => rfl
      · first | exact flag_ne (by decide) f1 | exact fun _ => rfl
      · intro h h7; rw [getD_set_ne false (by decide)] at h; rw [getD_set_ne true (by decide)] at h7; have := f2 h h7; first | exact this | (obtain ⟨g, m, z1, z2⟩ := this; exact ⟨g, m, z1, z2.below hb⟩) | (trace_state; fail)
      · first | exact flag_ne (by decide) f3 | exact fun _ => rfl
      · first | exact flag_ne (by decide) f4 | exact fun _ => rfl
      · intro h h7; rw [getD_set_ne false (by decide)] at h; rw [getD_set_ne true (by decide)] at h7; have := f5 h h7; first | exact this | (obtain ⟨g, m, z1, z2⟩ := this; exact ⟨g, m, z1, z2.below hb⟩) | (trace_state; fail)
      · intro h; rw [getD_set_ne false (by decide)] at h; have := f6 h; first | (rw [getD_set_ne false (by decide)]; first | exact this | exact this.below hb) | (trace_state; fail)
      · intro _ _; first | (go_loud (exact ⟨⟨_, rfl, hHeld.size, get_last rfl⟩, fun h9 => box6_ne (f6 (by rwa [getD_set_ne false (by decide)] at h9))⟩)) | (trace_state; fail)
      · intro h; rw [getD_set_ne false (by decide)] at h; exact (getD_no h0 (hC.step (j := 8) (k := 7) h (by kernel_rfl))).elim
      · intro h; rw [getD_set_ne false (by decide)] at h; exact (getD_no h0 (hC.step (j := 9) (k := 7) h (by kernel_rfl))).elim
    · refine StepAt.mk (o := { dst := none, op := Op.store 26 (Operand.tmp 11) (Operand.tmp 48), type := 0, pos := _, after := #[{ on := 6, ground := Ground.data }, { on := 2, ground := Ground.data }, { on := 5, ground := Ground.chain }, { on := 0, ground := Ground.phase }, { on := 1, ground := Ground.phase }, { on := 2, ground := Ground.phase }, { on := 3, ground := Ground.textOnly Departure.lateStores }, { on := 4, ground := Ground.textOnly Departure.lateStores }, { on := 5, ground := Ground.textOnly Departure.lateStoresUnsure }, { on := 6, ground := Ground.phase }, { on := 7, ground := Ground.phase }], guard := none }) (ws := [6, 2, 5, 0, 1, 2, 6, 7]) rfl (by kernel_rfl) ?_
      intro L b v hC h0 hA h
      refine h.elim ?_; clear h; intro u11 h
      refine h.elim ?_; clear h; intro u12 h
      refine h.elim ?_; clear h; intro u46 h
      refine h.elim ?_; clear h; intro u47 h
      refine h.elim ?_; clear h; intro u48 h
      refine h.elim ?_; clear h; intro u49 h
      refine h.elim ?_; clear h; intro u50 h
      refine h.elim ?_; clear h; intro u51 h
      have hbb := h.1; replace h := h.2; subst hbb
      have hHeld := h.1; replace h := h.2
      have f0 := h.1; replace h := h.2
      have f1 := h.1; replace h := h.2
      have f2 := h.1; replace h := h.2
      have f3 := h.1; replace h := h.2
      have f4 := h.1; replace h := h.2
      have f5 := h.1; replace h := h.2
      have f6 := h.1; replace h := h.2
      have f7 := h.1; replace h := h.2
      have f8 := h.1; replace h := h.2
      have f9 := h; clear h
      intro K hK
      have g6 := f6 (hA 6 (by simp))
      have g2 := f2 (hA 2 (by simp)) h0
      obtain ⟨gA, mA, rfl, hSA⟩ := g2
      have g5 := f5 (hA 5 (by simp))
      have g0 := f0 (hA 0 (by simp))
      obtain rfl := g0
      have g1 := f1 (hA 1 (by simp))
      obtain rfl := g1
      have g7 := f7 (hA 7 (by simp))
      have h6 := hA 6 (by simp)
      obtain ⟨p6, rfl, hpl, hz6⟩ := g6
      obtain ⟨hpw, hp6⟩ := hz6 (getD_open h0)
      have d0 : v.cell? ⟨p6, 0, none⟩ = some (.int .i64 0) := obj_cell hp6 (i := 0) rfl
      have d1 : v.cell? ⟨p6, 1, none⟩ = some (.slice none 0 0) := obj_cell hp6 (i := 1) rfl
      have s0 := obj_frozen hp6 0
      have s1 := obj_frozen hp6 1
      have k1 := obj_self (i := 0) (x := .int .i64 nA) hp6
      have k2 := obj_self (i := 1) (x := .slice (some ⟨gA, 0, none⟩) mA mA) k1
      rw [if_pos (by kernel_rfl)]
      have q0 := cellB hHeld c70 z7
      have q1 := cellB hHeld c71 z7
      have q2 := cellB hHeld c90 z9
      have q3 := cellB hHeld c91 z9
      go_simp
      try simp only [Act.put, List.setIfInBounds_toArray, List.set_cons_zero, List.set_cons_succ]
      refine hK.out _ _ ⟨_, _, _, _, _, _, _, _, rfl, ?_, ?_, ?_, ?_, ?_, ?_, ?_, ?_, ?_, ?_, ?_⟩
      · exact (hHeld.setCell (p := ⟨p6, 0, none⟩) hpw _).setCell (p := ⟨p6, 1, none⟩) hpw _
      · first | exact flag_ne (by decide) f0 | exact fun _ => rfl
      · first | exact flag_ne (by decide) f1 | exact fun _ => rfl
      · intro _ h7; rw [getD_set_self] at h7; cases h7
      · first | exact flag_ne (by decide) f3 | exact fun _ => rfl
      · first | exact flag_ne (by decide) f4 | exact fun _ => rfl
      · intro h h7; rw [getD_set_ne false (by decide)] at h; rw [getD_set_ne true (by decide)] at h7; have := f5 h h7; obtain ⟨g, m, y1, y2⟩ := this; exact ⟨g, m, y1, (y2.put (i := 0) (y := .int .i64 nA) hp6).put (i := 1) (y := .slice (some ⟨gA, 0, none⟩) mA mA) k1⟩
      · intro h; rw [getD_set_ne false (by decide)] at h; have := f6 h; exact this.off ((World.size_setCell _ _ _).trans (World.size_setCell _ _ _)) (getD_set_done h0)
      · intro h h7; rw [getD_set_ne false (by decide)] at h; rw [getD_set_ne true (by decide)] at h7; have := f7 h h7; exact ⟨(this.1.set_other (i := 0) (x := .int .i64 nA) (this.2 h6)).set_other (i := 1) (x := .slice (some ⟨gA, 0, none⟩) mA mA) (this.2 h6), fun h9 => this.2 (by rwa [getD_set_ne false (by decide)] at h9)⟩
      · intro _; first | exact ⟨_, _, _, rfl, hpw, k2, (hSA.put (i := 0) (y := .int .i64 nA) hp6).put (i := 1) (y := .slice (some ⟨gA, 0, none⟩) mA mA) k1⟩ | (trace_state; fail)
      · intro h; rw [getD_set_ne false (by decide)] at h; exact (getD_no h0 (hC.step (j := 9) (k := 8) h (by kernel_rfl))).elim
    · refine StepAt.mk (o := { dst := none, op := Op.store 26 (Operand.tmp 12) (Operand.tmp 51), type := 0, pos := _, after := #[{ on := 7, ground := Ground.data }, { on := 5, ground := Ground.data }, { on := 8, ground := Ground.chain }, { on := 0, ground := Ground.phase }, { on := 1, ground := Ground.phase }, { on := 2, ground := Ground.phase }, { on := 3, ground := Ground.phase }, { on := 4, ground := Ground.phase }, { on := 5, ground := Ground.phase }, { on := 6, ground := Ground.phase }, { on := 7, ground := Ground.phase }, { on := 8, ground := Ground.phase }], guard := none }) (ws := [7, 5, 8, 0, 1, 2, 3, 4, 5, 6, 7, 8]) rfl (by kernel_rfl) ?_
      intro L b v hC h0 hA h
      refine h.elim ?_; clear h; intro u11 h
      refine h.elim ?_; clear h; intro u12 h
      refine h.elim ?_; clear h; intro u46 h
      refine h.elim ?_; clear h; intro u47 h
      refine h.elim ?_; clear h; intro u48 h
      refine h.elim ?_; clear h; intro u49 h
      refine h.elim ?_; clear h; intro u50 h
      refine h.elim ?_; clear h; intro u51 h
      have hbb := h.1; replace h := h.2; subst hbb
      have hHeld := h.1; replace h := h.2
      have f0 := h.1; replace h := h.2
      have f1 := h.1; replace h := h.2
      have f2 := h.1; replace h := h.2
      have f3 := h.1; replace h := h.2
      have f4 := h.1; replace h := h.2
      have f5 := h.1; replace h := h.2
      have f6 := h.1; replace h := h.2
      have f7 := h.1; replace h := h.2
      have f8 := h.1; replace h := h.2
      have f9 := h; clear h
      intro K hK
      have g7 := f7 (hA 7 (by simp)) h0
      have g5 := f5 (hA 5 (by simp)) h0
      obtain ⟨gO, mO, rfl, hSO⟩ := g5
      have g8 := f8 (hA 8 (by simp))
      have g0 := f0 (hA 0 (by simp))
      obtain rfl := g0
      have g1 := f1 (hA 1 (by simp))
      obtain rfl := g1
      have g2 := f2 (hA 2 (by simp))
      have g3 := f3 (hA 3 (by simp))
      obtain rfl := g3
      have g4 := f4 (hA 4 (by simp))
      obtain rfl := g4
      have g6 := f6 (hA 6 (by simp))
      have h6 := hA 6 (by simp)
      obtain ⟨hg7, hn7⟩ := g7
      obtain ⟨p7, rfl, hpw, hp7⟩ := hg7
      have hne := hn7 h6
      have d0 : v.cell? ⟨p7, 0, none⟩ = some (.int .i64 0) := obj_cell hp7 (i := 0) rfl
      have d1 : v.cell? ⟨p7, 1, none⟩ = some (.slice none 0 0) := obj_cell hp7 (i := 1) rfl
      have s0 := obj_frozen hp7 0
      have s1 := obj_frozen hp7 1
      have k1 := obj_self (i := 0) (x := .int .i64 nO) hp7
      have k2 := obj_self (i := 1) (x := .slice (some ⟨gO, 0, none⟩) mO mO) k1
      rw [if_pos (by kernel_rfl)]
      have q0 := cellB hHeld c70 z7
      have q1 := cellB hHeld c71 z7
      have q2 := cellB hHeld c90 z9
      have q3 := cellB hHeld c91 z9
      go_simp
      try simp only [Act.put, List.setIfInBounds_toArray, List.set_cons_zero, List.set_cons_succ]
      refine hK.out _ _ ⟨_, _, _, _, _, _, _, _, rfl, ?_, ?_, ?_, ?_, ?_, ?_, ?_, ?_, ?_, ?_, ?_⟩
      · exact (hHeld.setCell (p := ⟨p7, 0, none⟩) hpw _).setCell (p := ⟨p7, 1, none⟩) hpw _
      · first | exact flag_ne (by decide) f0 | exact fun _ => rfl
      · first | exact flag_ne (by decide) f1 | exact fun _ => rfl
      · intro _ h7; rw [getD_set_ne true (by decide)] at h7; exact (getD_no h7 (hA 8 (by simp))).elim
      · first | exact flag_ne (by decide) f3 | exact fun _ => rfl
      · first | exact flag_ne (by decide) f4 | exact fun _ => rfl
      · intro _ h7; rw [getD_set_self] at h7; cases h7
      · intro h; rw [getD_set_ne false (by decide)] at h; have := f6 h; exact this.off ((World.size_setCell _ _ _).trans (World.size_setCell _ _ _)) (by rw [getD_set_ne false (by decide)]; exact hA 8 (by simp))
      · intro _ h7; rw [getD_set_self] at h7; cases h7
      · intro h; rw [getD_set_ne false (by decide)] at h; have := f8 h; exact (this.set_other (i := 0) (x := .int .i64 nO) hp7 hne).set_other (i := 1) (x := .slice (some ⟨gO, 0, none⟩) mO mO) k1 hne
      · intro _; first | exact ⟨_, _, _, rfl, hpw, k2, (hSO.put (i := 0) (y := .int .i64 nO) hp7).put (i := 1) (y := .slice (some ⟨gO, 0, none⟩) mO mO) k1⟩ | (trace_state; fail)
  intro L b v hA h
  refine h.elim ?_; clear h; intro u11 h
  refine h.elim ?_; clear h; intro u12 h
  refine h.elim ?_; clear h; intro u46 h
  refine h.elim ?_; clear h; intro u47 h
  refine h.elim ?_; clear h; intro u48 h
  refine h.elim ?_; clear h; intro u49 h
  refine h.elim ?_; clear h; intro u50 h
  refine h.elim ?_; clear h; intro u51 h
  have hbb := h.1; replace h := h.2; subst hbb
  have hHeld := h.1; replace h := h.2
  have f0 := h.1; replace h := h.2
  have f1 := h.1; replace h := h.2
  have f2 := h.1; replace h := h.2
  have f3 := h.1; replace h := h.2
  have f4 := h.1; replace h := h.2
  have f5 := h.1; replace h := h.2
  have f6 := h.1; replace h := h.2
  have f7 := h.1; replace h := h.2
  have f8 := h.1; replace h := h.2
  have f9 := h; clear h
  have g0 := f0 (hA 0 (by omega))
  clear f0
  obtain rfl := g0
  have g1 := f1 (hA 1 (by omega))
  clear f1
  obtain rfl := g1
  clear f2
  have g3 := f3 (hA 3 (by omega))
  clear f3
  obtain rfl := g3
  have g4 := f4 (hA 4 (by omega))
  clear f4
  obtain rfl := g4
  clear f5
  have g6 := f6 (hA 6 (by omega))
  clear f6
  clear f7
  have g8 := f8 (hA 8 (by omega))
  clear f8
  have g9 := f9 (hA 9 (by omega))
  clear f9
  clear hA
  exact ⟨rfl, _, _, _, _, _, _, _, _, rfl, hHeld, g8, g9⟩
end Go.Proofs.YtochjlllfbmhpaaDoor
