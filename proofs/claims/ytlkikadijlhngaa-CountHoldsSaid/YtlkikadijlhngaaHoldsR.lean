/- Layer 9: the region of CountHolds with two calls and two new places. -/
import Derived.Test.YtlkikadijlhngaaFacts
import Derived.Test.YtlkikadijlhngaaKeep
namespace Go.Proofs.Ytlkikadijlhngaa
open Go.RowKit
set_option linter.unusedSimpArgs false
set_option linter.unusedVariables false
theorem cell_of' {w : World} {g : Nat} {C : Array Value} {t : TypeId} {fr : Nat × Nat} (h : w.heap[g]? = some (.cells C t fr)) (i : Nat) {v : Value} (hv : C[i]? = some v) : w.cell? ⟨g, i, none⟩ = some v := by
  unfold World.cell?
  rw [show (⟨g, i, none⟩ : Addr).block = g from rfl, h]
  simpa using hv
theorem free_of' {w : World} {g : Nat} {C : Array Value} {t : TypeId} (h : w.heap[g]? = some (.cells C t (0, 0))) (i : Nat) : w.frozen? ⟨g, i, none⟩ = false := by
  unfold World.frozen?
  rw [show (⟨g, i, none⟩ : Addr).block = g from rfl, h]
  simp
theorem heap_lt {w : World} {q : Nat} {o : Obj} (h : w.heap[q]? = some o) : q < w.heap.size := by
  by_cases hq : q < w.heap.size
  · exact hq
  · rw [Array.getElem?_eq_none (by omega)] at h; cases h
theorem alloc_stay {w : World} {q : Nat} {o x : Obj} (h : w.heap[q]? = some o) : (w.alloc x).heap[q]? = some o := (Below.heap_alloc _ _ _ (heap_lt h)).trans h
theorem setc_at {w : World} {g : Nat} {C : Array Value} {t : TypeId} {fr : Nat × Nat} (h : w.heap[g]? = some (.cells C t fr)) (i : Nat) (v : Value) (D : Array Value) (hD : C.setIfInBounds i v = D) : (w.setCell ⟨g, i, none⟩ v).heap[g]? = some (.cells D t fr) := by
  subst hD
  show (w.heap.modify g _)[g]? = _
  rw [Array.getElem?_modify, if_pos rfl, h]
  simp
theorem st10_at {w : World} {q : Nat} {a0 a1 a2 a3 a4 a5 a6 a7 a8 a9 : Int} {t : TypeId} (h : w.heap[q]? = some (.cells #[.int .i64 0, .int .i64 0, .int .i64 0, .int .i64 0, .int .i64 0, .int .i64 0, .int .i64 0, .int .i64 0, .int .i64 0, .int .i64 0] t (0, 0))) : ((((((((((w.setCell ⟨q, 0, none⟩ (.int .i64 a0)).setCell ⟨q, 1, none⟩ (.int .i64 a1)).setCell ⟨q, 2, none⟩ (.int .i64 a2)).setCell ⟨q, 3, none⟩ (.int .i64 a3)).setCell ⟨q, 4, none⟩ (.int .i64 a4)).setCell ⟨q, 5, none⟩ (.int .i64 a5)).setCell ⟨q, 6, none⟩ (.int .i64 a6)).setCell ⟨q, 7, none⟩ (.int .i64 a7)).setCell ⟨q, 8, none⟩ (.int .i64 a8)).setCell ⟨q, 9, none⟩ (.int .i64 a9)).heap[q]? = some (.cells #[.int .i64 a0, .int .i64 a1, .int .i64 a2, .int .i64 a3, .int .i64 a4, .int .i64 a5, .int .i64 a6, .int .i64 a7, .int .i64 a8, .int .i64 a9] t (0, 0)) := by
  have k0 := setc_at h 0 (.int .i64 a0) #[.int .i64 a0, .int .i64 0, .int .i64 0, .int .i64 0, .int .i64 0, .int .i64 0, .int .i64 0, .int .i64 0, .int .i64 0, .int .i64 0] rfl
  have k1 := setc_at k0 1 (.int .i64 a1) #[.int .i64 a0, .int .i64 a1, .int .i64 0, .int .i64 0, .int .i64 0, .int .i64 0, .int .i64 0, .int .i64 0, .int .i64 0, .int .i64 0] rfl
  have k2 := setc_at k1 2 (.int .i64 a2) #[.int .i64 a0, .int .i64 a1, .int .i64 a2, .int .i64 0, .int .i64 0, .int .i64 0, .int .i64 0, .int .i64 0, .int .i64 0, .int .i64 0] rfl
  have k3 := setc_at k2 3 (.int .i64 a3) #[.int .i64 a0, .int .i64 a1, .int .i64 a2, .int .i64 a3, .int .i64 0, .int .i64 0, .int .i64 0, .int .i64 0, .int .i64 0, .int .i64 0] rfl
  have k4 := setc_at k3 4 (.int .i64 a4) #[.int .i64 a0, .int .i64 a1, .int .i64 a2, .int .i64 a3, .int .i64 a4, .int .i64 0, .int .i64 0, .int .i64 0, .int .i64 0, .int .i64 0] rfl
  have k5 := setc_at k4 5 (.int .i64 a5) #[.int .i64 a0, .int .i64 a1, .int .i64 a2, .int .i64 a3, .int .i64 a4, .int .i64 a5, .int .i64 0, .int .i64 0, .int .i64 0, .int .i64 0] rfl
  have k6 := setc_at k5 6 (.int .i64 a6) #[.int .i64 a0, .int .i64 a1, .int .i64 a2, .int .i64 a3, .int .i64 a4, .int .i64 a5, .int .i64 a6, .int .i64 0, .int .i64 0, .int .i64 0] rfl
  have k7 := setc_at k6 7 (.int .i64 a7) #[.int .i64 a0, .int .i64 a1, .int .i64 a2, .int .i64 a3, .int .i64 a4, .int .i64 a5, .int .i64 a6, .int .i64 a7, .int .i64 0, .int .i64 0] rfl
  have k8 := setc_at k7 8 (.int .i64 a8) #[.int .i64 a0, .int .i64 a1, .int .i64 a2, .int .i64 a3, .int .i64 a4, .int .i64 a5, .int .i64 a6, .int .i64 a7, .int .i64 a8, .int .i64 0] rfl
  have k9 := setc_at k8 9 (.int .i64 a9) #[.int .i64 a0, .int .i64 a1, .int .i64 a2, .int .i64 a3, .int .i64 a4, .int .i64 a5, .int .i64 a6, .int .i64 a7, .int .i64 a8, .int .i64 a9] rfl
  exact k9
theorem st10_ne {w : World} {q k : Nat} {a0 a1 a2 a3 a4 a5 a6 a7 a8 a9 : Int} (h : k ≠ q) : ((((((((((w.setCell ⟨q, 0, none⟩ (.int .i64 a0)).setCell ⟨q, 1, none⟩ (.int .i64 a1)).setCell ⟨q, 2, none⟩ (.int .i64 a2)).setCell ⟨q, 3, none⟩ (.int .i64 a3)).setCell ⟨q, 4, none⟩ (.int .i64 a4)).setCell ⟨q, 5, none⟩ (.int .i64 a5)).setCell ⟨q, 6, none⟩ (.int .i64 a6)).setCell ⟨q, 7, none⟩ (.int .i64 a7)).setCell ⟨q, 8, none⟩ (.int .i64 a8)).setCell ⟨q, 9, none⟩ (.int .i64 a9)).heap[k]? = w.heap[k]? := by
  repeat rw [Below.heap_setCell _ _ _ _ h]
theorem st10_below {B : Nat} {W w : World} {q : Nat} {a0 a1 a2 a3 a4 a5 a6 a7 a8 a9 : Int} (h : Below B W w) (hq : B ≤ q) : Below B W ((((((((((w.setCell ⟨q, 0, none⟩ (.int .i64 a0)).setCell ⟨q, 1, none⟩ (.int .i64 a1)).setCell ⟨q, 2, none⟩ (.int .i64 a2)).setCell ⟨q, 3, none⟩ (.int .i64 a3)).setCell ⟨q, 4, none⟩ (.int .i64 a4)).setCell ⟨q, 5, none⟩ (.int .i64 a5)).setCell ⟨q, 6, none⟩ (.int .i64 a6)).setCell ⟨q, 7, none⟩ (.int .i64 a7)).setCell ⟨q, 8, none⟩ (.int .i64 a8)).setCell ⟨q, 9, none⟩ (.int .i64 a9)) :=
  (Below.setCell (Below.setCell (Below.setCell (Below.setCell (Below.setCell (Below.setCell (Below.setCell (Below.setCell (Below.setCell (Below.setCell h (p := ⟨q, 0, none⟩) hq (.int .i64 a0)) (p := ⟨q, 1, none⟩) hq (.int .i64 a1)) (p := ⟨q, 2, none⟩) hq (.int .i64 a2)) (p := ⟨q, 3, none⟩) hq (.int .i64 a3)) (p := ⟨q, 4, none⟩) hq (.int .i64 a4)) (p := ⟨q, 5, none⟩) hq (.int .i64 a5)) (p := ⟨q, 6, none⟩) hq (.int .i64 a6)) (p := ⟨q, 7, none⟩) hq (.int .i64 a7)) (p := ⟨q, 8, none⟩) hq (.int .i64 a8)) (p := ⟨q, 9, none⟩) hq (.int .i64 a9))
set_option maxHeartbeats 4000000 in
theorem holds_r4 (W : World) (q3 q4 : Nat) (r0 r1 r2 r3 r4 r5 r6 r7 r8 r9 : Int) (l0 l1 l2 l3 l4 l5 l6 l7 l8 l9 : Int) (a0 a1 a2 a3 a4 a5 a6 a7 a8 a9 : Int) (b0 b1 b2 b3 b4 b5 b6 b7 b8 b9 : Int) (hq3 : q3 < W.heap.size) (hq4 : q4 < W.heap.size) (HR : W.heap[q3]? = some (.cells #[.int .i64 r0, .int .i64 r1, .int .i64 r2, .int .i64 r3, .int .i64 r4, .int .i64 r5, .int .i64 r6, .int .i64 r7, .int .i64 r8, .int .i64 r9] 24 (0, 0))) (HL : W.heap[q4]? = some (.cells #[.int .i64 l0, .int .i64 l1, .int .i64 l2, .int .i64 l3, .int .i64 l4, .int .i64 l5, .int .i64 l6, .int .i64 l7, .int .i64 l8, .int .i64 l9] 24 (0, 0))) (HP : Hid (∀ W', Calls Try.prog 6 #[.int .i64 4, .agg #[.int .i64 r0, .int .i64 r1, .int .i64 r2, .int .i64 r3, .int .i64 r4, .int .i64 r5, .int .i64 r6, .int .i64 r7, .int .i64 r8, .int .i64 r9]] W' fun e w' => e = .returned (.agg #[.int .i64 a0, .int .i64 a1, .int .i64 a2, .int .i64 a3, .int .i64 a4, .int .i64 a5, .int .i64 a6, .int .i64 a7, .int .i64 a8, .int .i64 a9]) ∧ Below W'.heap.size W' w')) (HQ : Hid (∀ W', Calls Try.prog 6 #[.int .i64 5, .agg #[.int .i64 l0, .int .i64 l1, .int .i64 l2, .int .i64 l3, .int .i64 l4, .int .i64 l5, .int .i64 l6, .int .i64 l7, .int .i64 l8, .int .i64 l9]] W' fun e w' => e = .returned (.agg #[.int .i64 b0, .int .i64 b1, .int .i64 b2, .int .i64 b3, .int .i64 b4, .int .i64 b5, .int .i64 b6, .int .i64 b7, .int .i64 b8, .int .i64 b9]) ∧ Below W'.heap.size W' w')) (t0 t1 t2 t7 t8 t9 t10 t11 t12 t13 t14 t15 t16 t17 t18 t19 t20 t21 t22 t23 t24 t25 t26 t27 t28 t29 t30 t31 t32 t33 t34 t35 t36 t37 t38 t39 t40 t41 t42 t43 t44 t45 t46 t47 t48 t49 t50 t51 t52 t53 t54 t55 t56 t57 t58 t59 t60 t61 t62 t63 t64 t65 t66 t67 t68 t69 t70 t71 t72 t73 t74 t75 t76 t77 t78 t79 t80 t81 t82 t83 t84 t85 t86 t87 t88 t89 t90 t91 t92 t93 t94 t95 : Value) :
    (Code.region 4 #[{ dst := some 16, op := Op.load 24 (Operand.tmp 3), type := 24, pos := "law.go:69", after := #[], guard := none }, { dst := some 17, op := Op.call { callee := Callee.value (Operand.func 6), args := #[Operand.const (Value.int IntKind.i64 4), Operand.tmp 16], argTypes := #[3, 24] }, type := 24, pos := "law.go:69", after := #[{ on := 0, ground := Ground.data }], guard := none }, { dst := some 18, op := Op.load 24 (Operand.tmp 4), type := 24, pos := "law.go:69", after := #[], guard := none }, { dst := some 19, op := Op.call { callee := Callee.value (Operand.func 6), args := #[Operand.const (Value.int IntKind.i64 5), Operand.tmp 18], argTypes := #[3, 24] }, type := 24, pos := "law.go:69", after := #[{ on := 2, ground := Ground.data }, { on := 1, ground := Ground.chain }], guard := none }, { dst := some 5, op := Op.alloc 24, type := 0, pos := "law.go:69", after := #[], guard := none }, { dst := some 6, op := Op.alloc 24, type := 0, pos := "law.go:69", after := #[], guard := none }, { dst := none, op := Op.store 24 (Operand.tmp 5) (Operand.tmp 17), type := 0, pos := "law.go:69", after := #[{ on := 4, ground := Ground.data }, { on := 1, ground := Ground.data }, { on := 3, ground := Ground.chain }, { on := 0, ground := Ground.phase }, { on := 1, ground := Ground.phase }, { on := 2, ground := Ground.textOnly Departure.lateStores }, { on := 3, ground := Ground.textOnly Departure.lateStoresUnsure }, { on := 4, ground := Ground.phase }, { on := 5, ground := Ground.phase }], guard := none }, { dst := none, op := Op.store 24 (Operand.tmp 6) (Operand.tmp 19), type := 0, pos := "law.go:69", after := #[{ on := 5, ground := Ground.data }, { on := 3, ground := Ground.data }, { on := 6, ground := Ground.chain }, { on := 0, ground := Ground.phase }, { on := 1, ground := Ground.phase }, { on := 2, ground := Ground.phase }, { on := 3, ground := Ground.phase }, { on := 4, ground := Ground.phase }, { on := 5, ground := Ground.phase }, { on := 6, ground := Ground.phase }], guard := none }] true).wp Try.prog (fun e b v => e = Exit.normal ∧ ∃ u5 u6 u16 u17 u18 u19 : Value, b = ⟨#[t0, t1, t2, .pointer (some ⟨q3, 0, none⟩), .pointer (some ⟨q4, 0, none⟩), u5, u6, t7, t8, t9, t10, t11, t12, t13, t14, t15, u16, u17, u18, u19, t20, t21, t22, t23, t24, t25, t26, t27, t28, t29, t30, t31, t32, t33, t34, t35, t36, t37, t38, t39, t40, t41, t42, t43, t44, t45, t46, t47, t48, t49, t50, t51, t52, t53, t54, t55, t56, t57, t58, t59, t60, t61, t62, t63, t64, t65, t66, t67, t68, t69, t70, t71, t72, t73, t74, t75, t76, t77, t78, t79, t80, t81, t82, t83, t84, t85, t86, t87, t88, t89, t90, t91, t92, t93, t94, t95], []⟩ ∧ Below W.heap.size W v ∧ (∃ q, u5 = .pointer (some ⟨q, 0, none⟩) ∧ W.heap.size ≤ q ∧ q < v.heap.size) ∧ (∃ q, u6 = .pointer (some ⟨q, 0, none⟩) ∧ W.heap.size ≤ q ∧ q < v.heap.size) ∧ (∀ q, u5 = .pointer (some ⟨q, 0, none⟩) → v.heap[q]? = some (.cells #[.int .i64 a0, .int .i64 a1, .int .i64 a2, .int .i64 a3, .int .i64 a4, .int .i64 a5, .int .i64 a6, .int .i64 a7, .int .i64 a8, .int .i64 a9] 24 (0, 0))) ∧ (∀ q, u6 = .pointer (some ⟨q, 0, none⟩) → v.heap[q]? = some (.cells #[.int .i64 b0, .int .i64 b1, .int .i64 b2, .int .i64 b3, .int .i64 b4, .int .i64 b5, .int .i64 b6, .int .i64 b7, .int .i64 b8, .int .i64 b9] 24 (0, 0)))) ⟨#[t0, t1, t2, .pointer (some ⟨q3, 0, none⟩), .pointer (some ⟨q4, 0, none⟩), undef, undef, t7, t8, t9, t10, t11, t12, t13, t14, t15, t16, t17, t18, t19, t20, t21, t22, t23, t24, t25, t26, t27, t28, t29, t30, t31, t32, t33, t34, t35, t36, t37, t38, t39, t40, t41, t42, t43, t44, t45, t46, t47, t48, t49, t50, t51, t52, t53, t54, t55, t56, t57, t58, t59, t60, t61, t62, t63, t64, t65, t66, t67, t68, t69, t70, t71, t72, t73, t74, t75, t76, t77, t78, t79, t80, t81, t82, t83, t84, t85, t86, t87, t88, t89, t90, t91, t92, t93, t94, t95], []⟩ W := by
  refine wp_region_facts (n := 8) (fun L b v => ∃ u5 u6 u16 u17 u18 u19 : Value, b = ⟨#[t0, t1, t2, .pointer (some ⟨q3, 0, none⟩), .pointer (some ⟨q4, 0, none⟩), u5, u6, t7, t8, t9, t10, t11, t12, t13, t14, t15, u16, u17, u18, u19, t20, t21, t22, t23, t24, t25, t26, t27, t28, t29, t30, t31, t32, t33, t34, t35, t36, t37, t38, t39, t40, t41, t42, t43, t44, t45, t46, t47, t48, t49, t50, t51, t52, t53, t54, t55, t56, t57, t58, t59, t60, t61, t62, t63, t64, t65, t66, t67, t68, t69, t70, t71, t72, t73, t74, t75, t76, t77, t78, t79, t80, t81, t82, t83, t84, t85, t86, t87, t88, t89, t90, t91, t92, t93, t94, t95], []⟩ ∧ Below W.heap.size W v ∧ (L.getD 0 false = true → u16 = .agg #[.int .i64 r0, .int .i64 r1, .int .i64 r2, .int .i64 r3, .int .i64 r4, .int .i64 r5, .int .i64 r6, .int .i64 r7, .int .i64 r8, .int .i64 r9]) ∧ (L.getD 1 false = true → u17 = .agg #[.int .i64 a0, .int .i64 a1, .int .i64 a2, .int .i64 a3, .int .i64 a4, .int .i64 a5, .int .i64 a6, .int .i64 a7, .int .i64 a8, .int .i64 a9]) ∧ (L.getD 2 false = true → u18 = .agg #[.int .i64 l0, .int .i64 l1, .int .i64 l2, .int .i64 l3, .int .i64 l4, .int .i64 l5, .int .i64 l6, .int .i64 l7, .int .i64 l8, .int .i64 l9]) ∧ (L.getD 3 false = true → u19 = .agg #[.int .i64 b0, .int .i64 b1, .int .i64 b2, .int .i64 b3, .int .i64 b4, .int .i64 b5, .int .i64 b6, .int .i64 b7, .int .i64 b8, .int .i64 b9]) ∧ (L.getD 4 false = true → ∃ q, u5 = .pointer (some ⟨q, 0, none⟩) ∧ W.heap.size ≤ q ∧ q < v.heap.size) ∧ (L.getD 5 false = true → ∃ q, u6 = .pointer (some ⟨q, 0, none⟩) ∧ W.heap.size ≤ q ∧ q < v.heap.size) ∧ (L.getD 6 false = true → ∀ q, u5 = .pointer (some ⟨q, 0, none⟩) → v.heap[q]? = some (.cells #[.int .i64 a0, .int .i64 a1, .int .i64 a2, .int .i64 a3, .int .i64 a4, .int .i64 a5, .int .i64 a6, .int .i64 a7, .int .i64 a8, .int .i64 a9] 24 (0, 0))) ∧ (L.getD 7 false = true → ∀ q, u6 = .pointer (some ⟨q, 0, none⟩) → v.heap[q]? = some (.cells #[.int .i64 b0, .int .i64 b1, .int .i64 b2, .int .i64 b3, .int .i64 b4, .int .i64 b5, .int .i64 b6, .int .i64 b7, .int .i64 b8, .int .i64 b9] 24 (0, 0))) ∧ (L.getD 4 false = false → u5 = undef) ∧ (L.getD 5 false = false → u6 = undef) ∧ (L.getD 7 false = false → ∀ q, u5 = .pointer (some ⟨q, 0, none⟩) → u6 ≠ .pointer (some ⟨q, 0, none⟩)) ∧ (L.getD 6 false = false → ∀ q, u5 = .pointer (some ⟨q, 0, none⟩) → v.heap[q]? = some (.cells #[.int .i64 0, .int .i64 0, .int .i64 0, .int .i64 0, .int .i64 0, .int .i64 0, .int .i64 0, .int .i64 0, .int .i64 0, .int .i64 0] 24 (0, 0))) ∧ (L.getD 7 false = false → ∀ q, u6 = .pointer (some ⟨q, 0, none⟩) → v.heap[q]? = some (.cells #[.int .i64 0, .int .i64 0, .int .i64 0, .int .i64 0, .int .i64 0, .int .i64 0, .int .i64 0, .int .i64 0, .int .i64 0, .int .i64 0] 24 (0, 0)))) (by kernel_rfl) (by kernel_rfl) (by kernel_rfl) ?_ ?_ ?_
  · refine ⟨_, _, _, _, _, _, rfl, (Below.refl _ _).drew, flag_new, flag_new, flag_new, flag_new, flag_new, flag_new, flag_new, flag_new, fun _ => (by first | rfl | assumption), fun _ => (by first | rfl | assumption), fun _ => (by intro q h; cases h), fun _ => (by intro q h; cases h), fun _ => (by intro q h; cases h)⟩
  · refine AllSteps.succ (AllSteps.succ (AllSteps.succ (AllSteps.succ (AllSteps.succ (AllSteps.succ (AllSteps.succ (AllSteps.succ AllSteps.zero ?_) ?_) ?_) ?_) ?_) ?_) ?_) ?_
    · refine StepAt.mk (o := { dst := some 16, op := Op.load 24 (Operand.tmp 3), type := 24, pos := _, after := #[], guard := none }) (ws := []) rfl (by kernel_rfl) ?_
      rintro L b v hC h0 hA ⟨u5, u6, u16, u17, u18, u19, rfl, hHeld, f0, f1, f2, f3, f4, f5, f6, f7, ea, eb, ec, ex, ey⟩ K hK
      have hh := (hHeld.block q3 hq3).trans HR
      have m0 := cell_of' hh 0 (v := .int .i64 r0) rfl
      have m1 := cell_of' hh 1 (v := .int .i64 r1) rfl
      have m2 := cell_of' hh 2 (v := .int .i64 r2) rfl
      have m3 := cell_of' hh 3 (v := .int .i64 r3) rfl
      have m4 := cell_of' hh 4 (v := .int .i64 r4) rfl
      have m5 := cell_of' hh 5 (v := .int .i64 r5) rfl
      have m6 := cell_of' hh 6 (v := .int .i64 r6) rfl
      have m7 := cell_of' hh 7 (v := .int .i64 r7) rfl
      have m8 := cell_of' hh 8 (v := .int .i64 r8) rfl
      have m9 := cell_of' hh 9 (v := .int .i64 r9) rfl
      clear hh
      rw [if_pos (by kernel_rfl)]
      go_simp
      try simp only [Act.put, List.setIfInBounds_toArray, List.set_cons_zero, List.set_cons_succ]
      refine hK.out _ _ ⟨_, _, _, _, _, _, rfl, ?_, ?_, ?_, ?_, ?_, ?_, ?_, ?_, ?_, ?_, ?_, ?_, ?_, ?_⟩
      · first | exact hHeld | exact hHeld.trans (hb.mono hHeld.size) | (trace_state; fail)
      · intro _; first | rfl | (trace_state; fail)
      · first | exact flag_ne (by decide) f1 | exact fun _ => rfl
      · first | exact flag_ne (by decide) f2 | exact fun _ => rfl
      · first | exact flag_ne (by decide) f3 | exact fun _ => rfl
      · intro h; rw [getD_set_ne false (by decide)] at h; have := f4 h; obtain ⟨q, e1, e2, e3⟩ := this; exact ⟨q, e1, e2, by first | (have := hb.size; omega) | (simp only [World.size_setCell, World.size_alloc]; omega) | exact e3⟩
      · intro h; rw [getD_set_ne false (by decide)] at h; have := f5 h; obtain ⟨q, e1, e2, e3⟩ := this; exact ⟨q, e1, e2, by first | (have := hb.size; omega) | (simp only [World.size_setCell, World.size_alloc]; omega) | exact e3⟩
      · intro h; rw [getD_set_ne false (by decide)] at h; exact (getD_no h0 (hC.step (j := 6) (k := 0) h (by kernel_rfl))).elim
      · intro h; rw [getD_set_ne false (by decide)] at h; exact (getD_no h0 (hC.step (j := 7) (k := 0) h (by kernel_rfl))).elim
      · intro h; rw [getD_set_ne false (by decide)] at h; have := ea h; first | exact this | exact owns_below this hb | (trace_state; fail)
      · intro h; rw [getD_set_ne false (by decide)] at h; have := eb h; first | exact this | exact owns_below this hb | (trace_state; fail)
      · intro h; rw [getD_set_ne false (by decide)] at h; have := ec h; exact this
      · intro h; rw [getD_set_ne false (by decide)] at h; have := ex h; first | exact this | (intro q hq; exact (hb.block q (heap_lt (this q hq))).trans (this q hq)) | (intro q hq; exact alloc_stay (this q hq)) | (trace_state; fail)
      · intro h; rw [getD_set_ne false (by decide)] at h; have := ey h; first | exact this | (intro q hq; exact (hb.block q (heap_lt (this q hq))).trans (this q hq)) | (intro q hq; exact alloc_stay (this q hq)) | (trace_state; fail)
    · refine StepAt.mk (o := { dst := some 17, op := Op.call { callee := Callee.value (Operand.func 6), args := #[Operand.const (Value.int IntKind.i64 4), Operand.tmp 16], argTypes := #[3, 24] }, type := 24, pos := _, after := #[{ on := 0, ground := Ground.data }], guard := none }) (ws := [0]) rfl (by kernel_rfl) ?_
      rintro L b v hC h0 hA ⟨u5, u6, u16, u17, u18, u19, rfl, hHeld, f0, f1, f2, f3, f4, f5, f6, f7, ea, eb, ec, ex, ey⟩ K hK
      have g0 := f0 (hA 0 (by simp))
      obtain rfl := g0
      rw [if_pos (by kernel_rfl)]
      go_simp
      refine (HP.out v).mono ?_; rintro e v1 ⟨rfl, hb⟩
      go_wp2_with fail
      try simp only [Act.put, List.setIfInBounds_toArray, List.set_cons_zero, List.set_cons_succ]
      refine hK.out _ _ ⟨_, _, _, _, _, _, rfl, ?_, ?_, ?_, ?_, ?_, ?_, ?_, ?_, ?_, ?_, ?_, ?_, ?_, ?_⟩
      · first | exact hHeld | exact hHeld.trans (hb.mono hHeld.size) | (trace_state; fail)
      · first | exact flag_ne (by decide) f0 | exact fun _ => rfl
      · intro _; first | rfl | (trace_state; fail)
      · first | exact flag_ne (by decide) f2 | exact fun _ => rfl
      · first | exact flag_ne (by decide) f3 | exact fun _ => rfl
      · intro h; rw [getD_set_ne false (by decide)] at h; have := f4 h; obtain ⟨q, e1, e2, e3⟩ := this; exact ⟨q, e1, e2, by first | (have := hb.size; omega) | (simp only [World.size_setCell, World.size_alloc]; omega) | exact e3⟩
      · intro h; rw [getD_set_ne false (by decide)] at h; have := f5 h; obtain ⟨q, e1, e2, e3⟩ := this; exact ⟨q, e1, e2, by first | (have := hb.size; omega) | (simp only [World.size_setCell, World.size_alloc]; omega) | exact e3⟩
      · intro h; rw [getD_set_ne false (by decide)] at h; exact (getD_no h0 (hC.step (j := 6) (k := 1) h (by kernel_rfl))).elim
      · intro h; rw [getD_set_ne false (by decide)] at h; exact (getD_no h0 (hC.step (j := 7) (k := 1) h (by kernel_rfl))).elim
      · intro h; rw [getD_set_ne false (by decide)] at h; have := ea h; first | exact this | exact owns_below this hb | (trace_state; fail)
      · intro h; rw [getD_set_ne false (by decide)] at h; have := eb h; first | exact this | exact owns_below this hb | (trace_state; fail)
      · intro h; rw [getD_set_ne false (by decide)] at h; have := ec h; exact this
      · intro h; rw [getD_set_ne false (by decide)] at h; have := ex h; first | exact this | (intro q hq; exact (hb.block q (heap_lt (this q hq))).trans (this q hq)) | (intro q hq; exact alloc_stay (this q hq)) | (trace_state; fail)
      · intro h; rw [getD_set_ne false (by decide)] at h; have := ey h; first | exact this | (intro q hq; exact (hb.block q (heap_lt (this q hq))).trans (this q hq)) | (intro q hq; exact alloc_stay (this q hq)) | (trace_state; fail)
    · refine StepAt.mk (o := { dst := some 18, op := Op.load 24 (Operand.tmp 4), type := 24, pos := _, after := #[], guard := none }) (ws := []) rfl (by kernel_rfl) ?_
      rintro L b v hC h0 hA ⟨u5, u6, u16, u17, u18, u19, rfl, hHeld, f0, f1, f2, f3, f4, f5, f6, f7, ea, eb, ec, ex, ey⟩ K hK
      have hh := (hHeld.block q4 hq4).trans HL
      have m0 := cell_of' hh 0 (v := .int .i64 l0) rfl
      have m1 := cell_of' hh 1 (v := .int .i64 l1) rfl
      have m2 := cell_of' hh 2 (v := .int .i64 l2) rfl
      have m3 := cell_of' hh 3 (v := .int .i64 l3) rfl
      have m4 := cell_of' hh 4 (v := .int .i64 l4) rfl
      have m5 := cell_of' hh 5 (v := .int .i64 l5) rfl
      have m6 := cell_of' hh 6 (v := .int .i64 l6) rfl
      have m7 := cell_of' hh 7 (v := .int .i64 l7) rfl
      have m8 := cell_of' hh 8 (v := .int .i64 l8) rfl
      have m9 := cell_of' hh 9 (v := .int .i64 l9) rfl
      clear hh
      rw [if_pos (by kernel_rfl)]
      go_simp
      try simp only [Act.put, List.setIfInBounds_toArray, List.set_cons_zero, List.set_cons_succ]
      refine hK.out _ _ ⟨_, _, _, _, _, _, rfl, ?_, ?_, ?_, ?_, ?_, ?_, ?_, ?_, ?_, ?_, ?_, ?_, ?_, ?_⟩
      · first | exact hHeld | exact hHeld.trans (hb.mono hHeld.size) | (trace_state; fail)
      · first | exact flag_ne (by decide) f0 | exact fun _ => rfl
      · first | exact flag_ne (by decide) f1 | exact fun _ => rfl
      · intro _; first | rfl | (trace_state; fail)
      · first | exact flag_ne (by decide) f3 | exact fun _ => rfl
      · intro h; rw [getD_set_ne false (by decide)] at h; have := f4 h; obtain ⟨q, e1, e2, e3⟩ := this; exact ⟨q, e1, e2, by first | (have := hb.size; omega) | (simp only [World.size_setCell, World.size_alloc]; omega) | exact e3⟩
      · intro h; rw [getD_set_ne false (by decide)] at h; have := f5 h; obtain ⟨q, e1, e2, e3⟩ := this; exact ⟨q, e1, e2, by first | (have := hb.size; omega) | (simp only [World.size_setCell, World.size_alloc]; omega) | exact e3⟩
      · intro h; rw [getD_set_ne false (by decide)] at h; exact (getD_no h0 (hC.step (j := 3) (k := 2) (hC.step (j := 6) (k := 3) h (by kernel_rfl)) (by kernel_rfl))).elim
      · intro h; rw [getD_set_ne false (by decide)] at h; exact (getD_no h0 (hC.step (j := 7) (k := 2) h (by kernel_rfl))).elim
      · intro h; rw [getD_set_ne false (by decide)] at h; have := ea h; first | exact this | exact owns_below this hb | (trace_state; fail)
      · intro h; rw [getD_set_ne false (by decide)] at h; have := eb h; first | exact this | exact owns_below this hb | (trace_state; fail)
      · intro h; rw [getD_set_ne false (by decide)] at h; have := ec h; exact this
      · intro h; rw [getD_set_ne false (by decide)] at h; have := ex h; first | exact this | (intro q hq; exact (hb.block q (heap_lt (this q hq))).trans (this q hq)) | (intro q hq; exact alloc_stay (this q hq)) | (trace_state; fail)
      · intro h; rw [getD_set_ne false (by decide)] at h; have := ey h; first | exact this | (intro q hq; exact (hb.block q (heap_lt (this q hq))).trans (this q hq)) | (intro q hq; exact alloc_stay (this q hq)) | (trace_state; fail)
    · refine StepAt.mk (o := { dst := some 19, op := Op.call { callee := Callee.value (Operand.func 6), args := #[Operand.const (Value.int IntKind.i64 5), Operand.tmp 18], argTypes := #[3, 24] }, type := 24, pos := _, after := #[{ on := 2, ground := Ground.data }, { on := 1, ground := Ground.chain }], guard := none }) (ws := [2, 1]) rfl (by kernel_rfl) ?_
      rintro L b v hC h0 hA ⟨u5, u6, u16, u17, u18, u19, rfl, hHeld, f0, f1, f2, f3, f4, f5, f6, f7, ea, eb, ec, ex, ey⟩ K hK
      have g2 := f2 (hA 2 (by simp))
      obtain rfl := g2
      have g1 := f1 (hA 1 (by simp))
      obtain rfl := g1
      rw [if_pos (by kernel_rfl)]
      go_simp
      refine (HQ.out v).mono ?_; rintro e v1 ⟨rfl, hb⟩
      go_wp2_with fail
      try simp only [Act.put, List.setIfInBounds_toArray, List.set_cons_zero, List.set_cons_succ]
      refine hK.out _ _ ⟨_, _, _, _, _, _, rfl, ?_, ?_, ?_, ?_, ?_, ?_, ?_, ?_, ?_, ?_, ?_, ?_, ?_, ?_⟩
      · first | exact hHeld | exact hHeld.trans (hb.mono hHeld.size) | (trace_state; fail)
      · first | exact flag_ne (by decide) f0 | exact fun _ => rfl
      · first | exact flag_ne (by decide) f1 | exact fun _ => rfl
      · first | exact flag_ne (by decide) f2 | exact fun _ => rfl
      · intro _; first | rfl | (trace_state; fail)
      · intro h; rw [getD_set_ne false (by decide)] at h; have := f4 h; obtain ⟨q, e1, e2, e3⟩ := this; exact ⟨q, e1, e2, by first | (have := hb.size; omega) | (simp only [World.size_setCell, World.size_alloc]; omega) | exact e3⟩
      · intro h; rw [getD_set_ne false (by decide)] at h; have := f5 h; obtain ⟨q, e1, e2, e3⟩ := this; exact ⟨q, e1, e2, by first | (have := hb.size; omega) | (simp only [World.size_setCell, World.size_alloc]; omega) | exact e3⟩
      · intro h; rw [getD_set_ne false (by decide)] at h; exact (getD_no h0 (hC.step (j := 6) (k := 3) h (by kernel_rfl))).elim
      · intro h; rw [getD_set_ne false (by decide)] at h; exact (getD_no h0 (hC.step (j := 7) (k := 3) h (by kernel_rfl))).elim
      · intro h; rw [getD_set_ne false (by decide)] at h; have := ea h; first | exact this | exact owns_below this hb | (trace_state; fail)
      · intro h; rw [getD_set_ne false (by decide)] at h; have := eb h; first | exact this | exact owns_below this hb | (trace_state; fail)
      · intro h; rw [getD_set_ne false (by decide)] at h; have := ec h; exact this
      · intro h; rw [getD_set_ne false (by decide)] at h; have := ex h; first | exact this | (intro q hq; exact (hb.block q (heap_lt (this q hq))).trans (this q hq)) | (intro q hq; exact alloc_stay (this q hq)) | (trace_state; fail)
      · intro h; rw [getD_set_ne false (by decide)] at h; have := ey h; first | exact this | (intro q hq; exact (hb.block q (heap_lt (this q hq))).trans (this q hq)) | (intro q hq; exact alloc_stay (this q hq)) | (trace_state; fail)
    · refine StepAt.mk (o := { dst := some 5, op := Op.alloc 24, type := 0, pos := _, after := #[], guard := none }) (ws := []) rfl (by kernel_rfl) ?_
      rintro L b v hC h0 hA ⟨u5, u6, u16, u17, u18, u19, rfl, hHeld, f0, f1, f2, f3, f4, f5, f6, f7, ea, eb, ec, ex, ey⟩ K hK
      rw [if_pos (by kernel_rfl)]
      go_simp
      try simp only [Act.put, List.setIfInBounds_toArray, List.set_cons_zero, List.set_cons_succ]
      refine hK.out _ _ ⟨_, _, _, _, _, _, rfl, ?_, ?_, ?_, ?_, ?_, ?_, ?_, ?_, ?_, ?_, ?_, ?_, ?_, ?_⟩
      · exact hHeld.alloc hHeld.size _
      · first | exact flag_ne (by decide) f0 | exact fun _ => rfl
      · first | exact flag_ne (by decide) f1 | exact fun _ => rfl
      · first | exact flag_ne (by decide) f2 | exact fun _ => rfl
      · first | exact flag_ne (by decide) f3 | exact fun _ => rfl
      · intro _; first | exact ⟨_, rfl, hHeld.size, by simp⟩ | (trace_state; fail)
      · intro h; rw [getD_set_ne false (by decide)] at h; have := f5 h; obtain ⟨q, e1, e2, e3⟩ := this; exact ⟨q, e1, e2, by first | (have := hb.size; omega) | (simp only [World.size_setCell, World.size_alloc]; omega) | exact e3⟩
      · intro h; rw [getD_set_ne false (by decide)] at h; exact (getD_no h0 (hC.step (j := 6) (k := 4) h (by kernel_rfl))).elim
      · intro h; rw [getD_set_ne false (by decide)] at h; exact (getD_no h0 (hC.step (j := 7) (k := 4) h (by kernel_rfl))).elim
      · intro h; rw [getD_set_done h0] at h; cases h
      · intro h; rw [getD_set_ne false (by decide)] at h; have := eb h; first | exact this | exact owns_below this hb | (trace_state; fail)
      · intro h; rw [getD_set_ne false (by decide)] at h; have := ec h; intro q hq; cases hq; intro h6; have hno : L.getD 5 false = true → False := fun h5 => (by obtain ⟨q6, e1, _, e3⟩ := f5 h5; rw [e1] at h6; cases h6; omega); cases h5 : L.getD 5 false; exact (by have := eb h5; rw [this] at h6; cases h6); exact hno h5
      · intro h; rw [getD_set_ne false (by decide)] at h; have := ex h; intro q hq; cases hq; exact heap_alloc_new v _
      · intro h; rw [getD_set_ne false (by decide)] at h; have := ey h; first | exact this | (intro q hq; exact (hb.block q (heap_lt (this q hq))).trans (this q hq)) | (intro q hq; exact alloc_stay (this q hq)) | (trace_state; fail)
    · refine StepAt.mk (o := { dst := some 6, op := Op.alloc 24, type := 0, pos := _, after := #[], guard := none }) (ws := []) rfl (by kernel_rfl) ?_
      rintro L b v hC h0 hA ⟨u5, u6, u16, u17, u18, u19, rfl, hHeld, f0, f1, f2, f3, f4, f5, f6, f7, ea, eb, ec, ex, ey⟩ K hK
      rw [if_pos (by kernel_rfl)]
      go_simp
      try simp only [Act.put, List.setIfInBounds_toArray, List.set_cons_zero, List.set_cons_succ]
      refine hK.out _ _ ⟨_, _, _, _, _, _, rfl, ?_, ?_, ?_, ?_, ?_, ?_, ?_, ?_, ?_, ?_, ?_, ?_, ?_, ?_⟩
      · exact hHeld.alloc hHeld.size _
      · first | exact flag_ne (by decide) f0 | exact fun _ => rfl
      · first | exact flag_ne (by decide) f1 | exact fun _ => rfl
      · first | exact flag_ne (by decide) f2 | exact fun _ => rfl
      · first | exact flag_ne (by decide) f3 | exact fun _ => rfl
      · intro h; rw [getD_set_ne false (by decide)] at h; have := f4 h; obtain ⟨q, e1, e2, e3⟩ := this; exact ⟨q, e1, e2, by first | (have := hb.size; omega) | (simp only [World.size_setCell, World.size_alloc]; omega) | exact e3⟩
      · intro _; first | exact ⟨_, rfl, hHeld.size, by simp⟩ | (trace_state; fail)
      · intro h; rw [getD_set_ne false (by decide)] at h; exact (getD_no h0 (hC.step (j := 6) (k := 5) h (by kernel_rfl))).elim
      · intro h; rw [getD_set_ne false (by decide)] at h; exact (getD_no h0 (hC.step (j := 7) (k := 5) h (by kernel_rfl))).elim
      · intro h; rw [getD_set_ne false (by decide)] at h; have := ea h; first | exact this | exact owns_below this hb | (trace_state; fail)
      · intro h; rw [getD_set_done h0] at h; cases h
      · intro h; rw [getD_set_ne false (by decide)] at h; have := ec h; intro q hq h6; cases h6; have hno : L.getD 4 false = true → False := fun h5 => (by obtain ⟨q6, e1, _, e3⟩ := f4 h5; rw [e1] at hq; cases hq; omega); cases h5 : L.getD 4 false; exact (by have := ea h5; rw [this] at hq; cases hq); exact hno h5
      · intro h; rw [getD_set_ne false (by decide)] at h; have := ex h; first | exact this | (intro q hq; exact (hb.block q (heap_lt (this q hq))).trans (this q hq)) | (intro q hq; exact alloc_stay (this q hq)) | (trace_state; fail)
      · intro h; rw [getD_set_ne false (by decide)] at h; have := ey h; intro q hq; cases hq; exact heap_alloc_new v _
    · refine StepAt.mk (o := { dst := none, op := Op.store 24 (Operand.tmp 5) (Operand.tmp 17), type := 0, pos := _, after := #[{ on := 4, ground := Ground.data }, { on := 1, ground := Ground.data }, { on := 3, ground := Ground.chain }, { on := 0, ground := Ground.phase }, { on := 1, ground := Ground.phase }, { on := 2, ground := Ground.textOnly Departure.lateStores }, { on := 3, ground := Ground.textOnly Departure.lateStoresUnsure }, { on := 4, ground := Ground.phase }, { on := 5, ground := Ground.phase }], guard := none }) (ws := [4, 1, 3, 0, 1, 4, 5]) rfl (by kernel_rfl) ?_
      rintro L b v hC h0 hA ⟨u5, u6, u16, u17, u18, u19, rfl, hHeld, f0, f1, f2, f3, f4, f5, f6, f7, ea, eb, ec, ex, ey⟩ K hK
      have g4 := f4 (hA 4 (by simp))
      obtain ⟨q5, rfl, y5, x5⟩ := g4
      have g1 := f1 (hA 1 (by simp))
      obtain rfl := g1
      have g3 := f3 (hA 3 (by simp))
      obtain rfl := g3
      have g0 := f0 (hA 0 (by simp))
      obtain rfl := g0
      have g5 := f5 (hA 5 (by simp))
      obtain ⟨q6, rfl, y6, x6⟩ := g5
      have dc := ec (Bool.eq_false_iff.2 (fun h => getD_no h0 (hC.step (j := 7) (k := 6) h (by kernel_rfl))))
      have dx := ex (getD_open h0)
      have zz := dx q5 rfl
      have m0 := cell_of' zz 0 (v := .int .i64 0) rfl
      have m1 := cell_of' zz 1 (v := .int .i64 0) rfl
      have m2 := cell_of' zz 2 (v := .int .i64 0) rfl
      have m3 := cell_of' zz 3 (v := .int .i64 0) rfl
      have m4 := cell_of' zz 4 (v := .int .i64 0) rfl
      have m5 := cell_of' zz 5 (v := .int .i64 0) rfl
      have m6 := cell_of' zz 6 (v := .int .i64 0) rfl
      have m7 := cell_of' zz 7 (v := .int .i64 0) rfl
      have m8 := cell_of' zz 8 (v := .int .i64 0) rfl
      have m9 := cell_of' zz 9 (v := .int .i64 0) rfl
      have f'0 := free_of' zz 0
      have f'1 := free_of' zz 1
      have f'2 := free_of' zz 2
      have f'3 := free_of' zz 3
      have f'4 := free_of' zz 4
      have f'5 := free_of' zz 5
      have f'6 := free_of' zz 6
      have f'7 := free_of' zz 7
      have f'8 := free_of' zz 8
      have f'9 := free_of' zz 9
      rw [if_pos (by kernel_rfl)]
      go_simp
      try simp only [Act.put, List.setIfInBounds_toArray, List.set_cons_zero, List.set_cons_succ]
      refine hK.out _ _ ⟨_, _, _, _, _, _, rfl, ?_, ?_, ?_, ?_, ?_, ?_, ?_, ?_, ?_, ?_, ?_, ?_, ?_, ?_⟩
      · exact st10_below hHeld y5
      · first | exact flag_ne (by decide) f0 | exact fun _ => rfl
      · first | exact flag_ne (by decide) f1 | exact fun _ => rfl
      · first | exact flag_ne (by decide) f2 | exact fun _ => rfl
      · first | exact flag_ne (by decide) f3 | exact fun _ => rfl
      · intro h; rw [getD_set_ne false (by decide)] at h; have := f4 h; obtain ⟨q, e1, e2, e3⟩ := this; exact ⟨q, e1, e2, by first | (have := hb.size; omega) | (simp only [World.size_setCell, World.size_alloc]; omega) | exact e3⟩
      · intro h; rw [getD_set_ne false (by decide)] at h; have := f5 h; obtain ⟨q, e1, e2, e3⟩ := this; exact ⟨q, e1, e2, by first | (have := hb.size; omega) | (simp only [World.size_setCell, World.size_alloc]; omega) | exact e3⟩
      · intro _; first | (intro q hq; cases hq; exact st10_at zz) | (trace_state; fail)
      · intro h; rw [getD_set_ne false (by decide)] at h; exact (getD_no h0 (hC.step (j := 7) (k := 6) h (by kernel_rfl))).elim
      · intro h; rw [getD_set_ne false (by decide)] at h; have := ea h; first | exact this | exact owns_below this hb | (trace_state; fail)
      · intro h; rw [getD_set_ne false (by decide)] at h; have := eb h; first | exact this | exact owns_below this hb | (trace_state; fail)
      · intro h; first | rfl | (rw [getD_set_ne false (by decide)] at h; have := ec h; exact this)
      · intro h; rw [getD_set_done h0] at h; cases h
      · intro h; rw [getD_set_ne false (by decide)] at h; have := ey h; intro q hq; exact (st10_ne (fun e => dc q5 rfl (by rw [← e]; exact hq))).trans (this q hq)
    · refine StepAt.mk (o := { dst := none, op := Op.store 24 (Operand.tmp 6) (Operand.tmp 19), type := 0, pos := _, after := #[{ on := 5, ground := Ground.data }, { on := 3, ground := Ground.data }, { on := 6, ground := Ground.chain }, { on := 0, ground := Ground.phase }, { on := 1, ground := Ground.phase }, { on := 2, ground := Ground.phase }, { on := 3, ground := Ground.phase }, { on := 4, ground := Ground.phase }, { on := 5, ground := Ground.phase }, { on := 6, ground := Ground.phase }], guard := none }) (ws := [5, 3, 6, 0, 1, 2, 3, 4, 5, 6]) rfl (by kernel_rfl) ?_
      rintro L b v hC h0 hA ⟨u5, u6, u16, u17, u18, u19, rfl, hHeld, f0, f1, f2, f3, f4, f5, f6, f7, ea, eb, ec, ex, ey⟩ K hK
      have g5 := f5 (hA 5 (by simp))
      obtain ⟨q6, rfl, y6, x6⟩ := g5
      have g3 := f3 (hA 3 (by simp))
      obtain rfl := g3
      have g6 := f6 (hA 6 (by simp))
      have g0 := f0 (hA 0 (by simp))
      obtain rfl := g0
      have g1 := f1 (hA 1 (by simp))
      obtain rfl := g1
      have g2 := f2 (hA 2 (by simp))
      obtain rfl := g2
      have g4 := f4 (hA 4 (by simp))
      obtain ⟨q5, rfl, y5, x5⟩ := g4
      have dc := ec (getD_open h0)
      have dy := ey (getD_open h0)
      have zz := dy q6 rfl
      have m0 := cell_of' zz 0 (v := .int .i64 0) rfl
      have m1 := cell_of' zz 1 (v := .int .i64 0) rfl
      have m2 := cell_of' zz 2 (v := .int .i64 0) rfl
      have m3 := cell_of' zz 3 (v := .int .i64 0) rfl
      have m4 := cell_of' zz 4 (v := .int .i64 0) rfl
      have m5 := cell_of' zz 5 (v := .int .i64 0) rfl
      have m6 := cell_of' zz 6 (v := .int .i64 0) rfl
      have m7 := cell_of' zz 7 (v := .int .i64 0) rfl
      have m8 := cell_of' zz 8 (v := .int .i64 0) rfl
      have m9 := cell_of' zz 9 (v := .int .i64 0) rfl
      have f'0 := free_of' zz 0
      have f'1 := free_of' zz 1
      have f'2 := free_of' zz 2
      have f'3 := free_of' zz 3
      have f'4 := free_of' zz 4
      have f'5 := free_of' zz 5
      have f'6 := free_of' zz 6
      have f'7 := free_of' zz 7
      have f'8 := free_of' zz 8
      have f'9 := free_of' zz 9
      rw [if_pos (by kernel_rfl)]
      go_simp
      try simp only [Act.put, List.setIfInBounds_toArray, List.set_cons_zero, List.set_cons_succ]
      refine hK.out _ _ ⟨_, _, _, _, _, _, rfl, ?_, ?_, ?_, ?_, ?_, ?_, ?_, ?_, ?_, ?_, ?_, ?_, ?_, ?_⟩
      · exact st10_below hHeld y6
      · first | exact flag_ne (by decide) f0 | exact fun _ => rfl
      · first | exact flag_ne (by decide) f1 | exact fun _ => rfl
      · first | exact flag_ne (by decide) f2 | exact fun _ => rfl
      · first | exact flag_ne (by decide) f3 | exact fun _ => rfl
      · intro h; rw [getD_set_ne false (by decide)] at h; have := f4 h; obtain ⟨q, e1, e2, e3⟩ := this; exact ⟨q, e1, e2, by first | (have := hb.size; omega) | (simp only [World.size_setCell, World.size_alloc]; omega) | exact e3⟩
      · intro h; rw [getD_set_ne false (by decide)] at h; have := f5 h; obtain ⟨q, e1, e2, e3⟩ := this; exact ⟨q, e1, e2, by first | (have := hb.size; omega) | (simp only [World.size_setCell, World.size_alloc]; omega) | exact e3⟩
      · intro h; rw [getD_set_ne false (by decide)] at h; have := f6 h; intro q hq; exact (st10_ne (fun e => dc q hq (by rw [e]))).trans (this q hq)
      · intro _; first | (intro q hq; cases hq; exact st10_at zz) | (trace_state; fail)
      · intro h; rw [getD_set_ne false (by decide)] at h; have := ea h; first | exact this | exact owns_below this hb | (trace_state; fail)
      · intro h; rw [getD_set_ne false (by decide)] at h; have := eb h; first | exact this | exact owns_below this hb | (trace_state; fail)
      · intro h; rw [getD_set_done h0] at h; cases h
      · intro h; rw [getD_set_ne false (by decide)] at h; have := ex h; exfalso; rw [hA 6 (by simp)] at h; cases h
      · intro h; rw [getD_set_done h0] at h; cases h
  rintro L b v hA ⟨u5, u6, u16, u17, u18, u19, rfl, hHeld, f0, f1, f2, f3, f4, f5, f6, f7, ea, eb, ec, ex, ey⟩
  clear ea
  clear eb
  clear ec
  clear ex
  clear ey
  have g0 := f0 (hA 0 (by omega))
  clear f0
  obtain rfl := g0
  have g1 := f1 (hA 1 (by omega))
  clear f1
  obtain rfl := g1
  have g2 := f2 (hA 2 (by omega))
  clear f2
  obtain rfl := g2
  have g3 := f3 (hA 3 (by omega))
  clear f3
  obtain rfl := g3
  have g4 := f4 (hA 4 (by omega))
  clear f4
  have g5 := f5 (hA 5 (by omega))
  clear f5
  have g6 := f6 (hA 6 (by omega))
  clear f6
  have g7 := f7 (hA 7 (by omega))
  clear f7
  clear hA
  exact ⟨rfl, _, _, _, _, _, _, rfl, hHeld, g4, g5, g6, g7⟩
end Go.Proofs.Ytlkikadijlhngaa
