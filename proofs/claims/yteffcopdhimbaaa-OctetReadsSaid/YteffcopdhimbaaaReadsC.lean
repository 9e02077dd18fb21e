/- Layer 3: what both readers tell. -/
import Derived.Test.YteffcopdhimbaaaReads
namespace Go.Proofs.Yteffcopdhimbaaa
open Go.RowKit
set_option linter.unusedSimpArgs false
set_option linter.unusedVariables false
set_option maxHeartbeats 4000000 in
theorem reads_r14 (wr : World) (g q g2 q2 : Nat) (LL : List UInt8) (n : Nat) (bd : Bool) (HR : RdAt wr g q LL n bd) (HF : RfAt wr g2 q2 LL n bd) (z1 : wr.cell? ⟨g2, 1, none⟩ = some (.int .i64 n)) (z2 : wr.cell? ⟨g2, 2, none⟩ = some (.bool bd)) (zg : g2 < wr.heap.size) (t0 t1 t2 t3 t4 t7 t9 t10 t11 t12 t13 t14 t15 t16 t17 t18 t19 t20 t21 t22 t23 t24 t25 t26 t27 t28 t29 t30 t31 t32 t33 t34 t35 t36 t37 t38 t39 t40 t41 t42 t43 t44 t45 t46 t47 t48 t49 t50 t51 t52 t53 t54 t55 t56 t57 t58 t59 t60 t61 t62 t63 t64 t65 t66 t67 t68 t69 t70 t71 t72 t73 t74 t75 t76 t77 t78 t79 t80 t81 t82 t83 t84 t85 t86 t87 t88 t89 t90 t91 t92 t93 t94 t95 t96 t97 t98 t99 t100 t101 t102 t103 t104 t105 t106 t107 t108 t109 t110 t111 t112 t113 t114 t115 t116 t117 t118 t119 t120 t121 t122 t123 t124 t125 t126 t127 t128 : Value) :
    (Code.region 14 #[{ dst := some 78, op := Op.move (Operand.tmp 8), type := 4, pos := "law.go:39", after := #[], guard := none }, { dst := some 79, op := Op.unOp UnOp.not 4 (Operand.tmp 78), type := 4, pos := "law.go:39", after := #[{ on := 0, ground := Ground.data }], guard := none }, { dst := some 80, op := Op.move (Operand.tmp 79), type := 4, pos := "law.go:39", after := #[{ on := 1, ground := Ground.data }], guard := none }, { dst := some 81, op := Op.move (Operand.tmp 5), type := 28, pos := "law.go:39", after := #[{ on := 2, ground := Ground.guard }], guard := some (2, false) }, { dst := some 82, op := Op.call { callee := Callee.value (Operand.func 18), args := #[Operand.tmp 81], argTypes := #[28] }, type := 3, pos := "law.go:39", after := #[{ on := 3, ground := Ground.data }, { on := 2, ground := Ground.chain }, { on := 2, ground := Ground.guard }], guard := some (2, false) }, { dst := some 83, op := Op.move (Operand.tmp 6), type := 30, pos := "law.go:39", after := #[{ on := 2, ground := Ground.guard }], guard := some (2, false) }, { dst := some 84, op := Op.call { callee := Callee.value (Operand.func 19), args := #[Operand.tmp 83], argTypes := #[30] }, type := 3, pos := "law.go:39", after := #[{ on := 5, ground := Ground.data }, { on := 4, ground := Ground.chain }, { on := 2, ground := Ground.guard }], guard := some (2, false) }, { dst := some 85, op := Op.binOp BinOp.neq 3 (Operand.tmp 82) (Operand.tmp 84) 3, type := 4, pos := "law.go:39", after := #[{ on := 4, ground := Ground.data }, { on := 6, ground := Ground.data }, { on := 2, ground := Ground.guard }], guard := some (2, false) }, { dst := some 86, op := Op.pick (Operand.tmp 80) (Operand.const (Value.bool true)) (Operand.tmp 85), type := 4, pos := "law.go:39", after := #[{ on := 2, ground := Ground.data }, { on := 7, ground := Ground.data }], guard := none }, { dst := some 87, op := Op.move (Operand.tmp 86), type := 4, pos := "law.go:39", after := #[{ on := 8, ground := Ground.data }, { on := 6, ground := Ground.chain }], guard := none }, { dst := some 88, op := Op.move (Operand.tmp 5), type := 28, pos := "law.go:39", after := #[{ on := 9, ground := Ground.guard }], guard := some (9, false) }, { dst := some 89, op := Op.call { callee := Callee.value (Operand.func 20), args := #[Operand.tmp 88], argTypes := #[28] }, type := 3, pos := "law.go:39", after := #[{ on := 10, ground := Ground.data }, { on := 9, ground := Ground.chain }, { on := 9, ground := Ground.guard }], guard := some (9, false) }, { dst := some 90, op := Op.move (Operand.tmp 6), type := 30, pos := "law.go:39", after := #[{ on := 9, ground := Ground.guard }], guard := some (9, false) }, { dst := some 91, op := Op.nilCheck (Operand.tmp 90), type := 0, pos := "law.go:39", after := #[{ on := 12, ground := Ground.data }, { on := 9, ground := Ground.guard }], guard := some (9, false) }, { dst := some 92, op := Op.fieldAddr 32 (Operand.tmp 91) 1, type := 0, pos := "law.go:39", after := #[{ on := 13, ground := Ground.data }, { on := 9, ground := Ground.guard }], guard := some (9, false) }, { dst := some 93, op := Op.load 3 (Operand.tmp 92), type := 3, pos := "law.go:39", after := #[{ on := 14, ground := Ground.data }, { on := 9, ground := Ground.guard }], guard := some (9, false) }, { dst := some 94, op := Op.binOp BinOp.neq 3 (Operand.tmp 89) (Operand.tmp 93) 3, type := 4, pos := "law.go:39", after := #[{ on := 11, ground := Ground.data }, { on := 15, ground := Ground.data }, { on := 9, ground := Ground.guard }], guard := some (9, false) }, { dst := some 95, op := Op.pick (Operand.tmp 87) (Operand.const (Value.bool true)) (Operand.tmp 94), type := 4, pos := "law.go:39", after := #[{ on := 9, ground := Ground.data }, { on := 16, ground := Ground.data }], guard := none }, { dst := some 96, op := Op.move (Operand.tmp 95), type := 4, pos := "law.go:39", after := #[{ on := 17, ground := Ground.data }, { on := 11, ground := Ground.chain }], guard := none }, { dst := some 97, op := Op.move (Operand.tmp 5), type := 28, pos := "law.go:39", after := #[{ on := 18, ground := Ground.guard }], guard := some (18, false) }, { dst := some 98, op := Op.call { callee := Callee.value (Operand.func 21), args := #[Operand.tmp 97], argTypes := #[28] }, type := 4, pos := "law.go:39", after := #[{ on := 19, ground := Ground.data }, { on := 18, ground := Ground.chain }, { on := 18, ground := Ground.guard }], guard := some (18, false) }, { dst := some 99, op := Op.move (Operand.tmp 6), type := 30, pos := "law.go:39", after := #[{ on := 18, ground := Ground.guard }], guard := some (18, false) }, { dst := some 100, op := Op.nilCheck (Operand.tmp 99), type := 0, pos := "law.go:39", after := #[{ on := 21, ground := Ground.data }, { on := 18, ground := Ground.guard }], guard := some (18, false) }, { dst := some 101, op := Op.fieldAddr 32 (Operand.tmp 100) 2, type := 0, pos := "law.go:39", after := #[{ on := 22, ground := Ground.data }, { on := 18, ground := Ground.guard }], guard := some (18, false) }, { dst := some 102, op := Op.load 4 (Operand.tmp 101), type := 4, pos := "law.go:39", after := #[{ on := 23, ground := Ground.data }, { on := 18, ground := Ground.guard }], guard := some (18, false) }, { dst := some 103, op := Op.binOp BinOp.neq 4 (Operand.tmp 98) (Operand.tmp 102) 4, type := 4, pos := "law.go:39", after := #[{ on := 20, ground := Ground.data }, { on := 24, ground := Ground.data }, { on := 18, ground := Ground.guard }], guard := some (18, false) }, { dst := some 104, op := Op.pick (Operand.tmp 96) (Operand.const (Value.bool true)) (Operand.tmp 103), type := 4, pos := "law.go:39", after := #[{ on := 18, ground := Ground.data }, { on := 25, ground := Ground.data }], guard := none }] true).wp Try.prog (fun e b v => e = Exit.normal ∧ ∃ u78 u79 u80 u81 u82 u83 u84 u85 u86 u87 u88 u89 u90 u91 u92 u93 u94 u95 u96 u97 u98 u99 u100 u101 u102 u103 u104 : Value, b = ⟨#[t0, t1, t2, t3, t4, .pointer (some ⟨g, 0, none⟩), .pointer (some ⟨g2, 0, none⟩), t7, .bool true, t9, t10, t11, t12, t13, t14, t15, t16, t17, t18, t19, t20, t21, t22, t23, t24, t25, t26, t27, t28, t29, t30, t31, t32, t33, t34, t35, t36, t37, t38, t39, t40, t41, t42, t43, t44, t45, t46, t47, t48, t49, t50, t51, t52, t53, t54, t55, t56, t57, t58, t59, t60, t61, t62, t63, t64, t65, t66, t67, t68, t69, t70, t71, t72, t73, t74, t75, t76, t77, u78, u79, u80, u81, u82, u83, u84, u85, u86, u87, u88, u89, u90, u91, u92, u93, u94, u95, u96, u97, u98, u99, u100, u101, u102, u103, u104, t105, t106, t107, t108, t109, t110, t111, t112, t113, t114, t115, t116, t117, t118, t119, t120, t121, t122, t123, t124, t125, t126, t127, t128], []⟩ ∧ Below wr.heap.size wr v ∧ (u104 = .bool false)) ⟨#[t0, t1, t2, t3, t4, .pointer (some ⟨g, 0, none⟩), .pointer (some ⟨g2, 0, none⟩), t7, .bool true, t9, t10, t11, t12, t13, t14, t15, t16, t17, t18, t19, t20, t21, t22, t23, t24, t25, t26, t27, t28, t29, t30, t31, t32, t33, t34, t35, t36, t37, t38, t39, t40, t41, t42, t43, t44, t45, t46, t47, t48, t49, t50, t51, t52, t53, t54, t55, t56, t57, t58, t59, t60, t61, t62, t63, t64, t65, t66, t67, t68, t69, t70, t71, t72, t73, t74, t75, t76, t77, t78, t79, t80, t81, t82, t83, t84, t85, t86, t87, t88, t89, t90, t91, t92, t93, t94, t95, t96, t97, t98, t99, t100, t101, t102, t103, t104, t105, t106, t107, t108, t109, t110, t111, t112, t113, t114, t115, t116, t117, t118, t119, t120, t121, t122, t123, t124, t125, t126, t127, t128], []⟩ wr := by
  refine wp_region_held_drew (S := (fun w' => Below wr.heap.size wr w')) (by kernel_rfl) ?_ (fun hHeld => ?_)
  · (try dsimp only); first | assumption | exact Below.alloc hHeld hHeld.size _ | exact (Below.refl _ _).drew | exact Below.drew (Below.refl _ _) | exact Below_drewN _ _ _ | exact Below.refl _ _ | (trace_state; fail)
  refine wpAnyH_take (i := 0) (oi := { dst := some 78, op := Op.move (Operand.tmp 8), type := 4, pos := _, after := #[], guard := none }) (v := ?_) rfl (by kernel_rfl) (by kernel_rfl) (by kernel_rfl) (fun _ _ _ h => by cases h.1) (Or.inl ⟨by rfl, ?_⟩) (by assumption) ?_
  rotate_left
  · intro wt hSw; (try dsimp only at hSw); have z1 := cellB hSw z1 zg; have z2 := cellB hSw z2 zg; first | (go_simp; done) | (go_simp; with_reducible rfl) | (trace_state; fail)
  try simp only [Act.put, List.setIfInBounds_toArray, List.set_cons_zero, List.set_cons_succ]
  refine wpAnyH_take (i := 1) (oi := { dst := some 79, op := Op.unOp UnOp.not 4 (Operand.tmp 78), type := 4, pos := _, after := #[{ on := 0, ground := Ground.data }], guard := none }) (v := ?_) rfl (by kernel_rfl) (by kernel_rfl) (by kernel_rfl) (fun _ _ _ h => by cases h.1) (Or.inl ⟨by rfl, ?_⟩) (by assumption) ?_
  rotate_left
  · intro wt hSw; (try dsimp only at hSw); have z1 := cellB hSw z1 zg; have z2 := cellB hSw z2 zg; first | (go_simp; done) | (go_simp; with_reducible rfl) | (trace_state; fail)
  try simp only [Act.put, List.setIfInBounds_toArray, List.set_cons_zero, List.set_cons_succ]
  refine wpAnyH_take (i := 2) (oi := { dst := some 80, op := Op.move (Operand.tmp 79), type := 4, pos := _, after := #[{ on := 1, ground := Ground.data }], guard := none }) (v := ?_) rfl (by kernel_rfl) (by kernel_rfl) (by kernel_rfl) (fun _ _ _ h => by cases h.1) (Or.inl ⟨by rfl, ?_⟩) (by assumption) ?_
  rotate_left
  · intro wt hSw; (try dsimp only at hSw); have z1 := cellB hSw z1 zg; have z2 := cellB hSw z2 zg; first | (go_simp; done) | (go_simp; with_reducible rfl) | (trace_state; fail)
  try simp only [Act.put, List.setIfInBounds_toArray, List.set_cons_zero, List.set_cons_succ]
  refine wpAnyH_take (i := 3) (oi := { dst := some 81, op := Op.move (Operand.tmp 5), type := 28, pos := _, after := #[{ on := 2, ground := Ground.guard }], guard := some (2, false) }) (v := ?_) rfl (by kernel_rfl) (by kernel_rfl) (by kernel_rfl) (fun _ _ _ h => by cases h.1) (Or.inl ⟨by rfl, ?_⟩) (by assumption) ?_
  rotate_left
  · intro wt hSw; (try dsimp only at hSw); have z1 := cellB hSw z1 zg; have z2 := cellB hSw z2 zg; first | (go_simp; done) | (go_simp; with_reducible rfl) | (trace_state; fail)
  try simp only [Act.put, List.setIfInBounds_toArray, List.set_cons_zero, List.set_cons_succ]
  refine wpAnyH_take (i := 5) (oi := { dst := some 83, op := Op.move (Operand.tmp 6), type := 30, pos := _, after := #[{ on := 2, ground := Ground.guard }], guard := some (2, false) }) (v := ?_) rfl (by kernel_rfl) (by kernel_rfl) (by kernel_rfl) (fun _ _ _ h => by cases h.1) (Or.inl ⟨by rfl, ?_⟩) (by assumption) ?_
  rotate_left
  · intro wt hSw; (try dsimp only at hSw); have z1 := cellB hSw z1 zg; have z2 := cellB hSw z2 zg; first | (go_simp; done) | (go_simp; with_reducible rfl) | (trace_state; fail)
  try simp only [Act.put, List.setIfInBounds_toArray, List.set_cons_zero, List.set_cons_succ]
  refine wpAnyH_ready (rs := [4]) (by kernel_rfl) (by simp) ?_
  refine AllReadyH.cons (o := { dst := some 82, op := Op.call { callee := Callee.value (Operand.func 18), args := #[Operand.tmp 81], argTypes := #[28] }, type := 3, pos := _, after := #[{ on := 3, ground := Ground.data }, { on := 2, ground := Ground.chain }, { on := 2, ground := Ground.guard }], guard := some (2, false) }) rfl (fun K hK => ?_) AllReadyH.nil
  go_simp
  refine (reader_Left g q LL n bd _ (rd_below HR hHeld)).mono ?_; rintro e v1 ⟨rfl, m1, rfl⟩; have hb := Below_drewN wr.heap.size wr 0; have hHeld := below_drewN hHeld m1
  go_wp2_with fail
  refine hK.out _ _ ?_ (fun hHeld => ?_)
  · (try dsimp only); first | assumption | exact Below.alloc hHeld hHeld.size _ | exact (Below.refl _ _).drew | exact Below.drew (Below.refl _ _) | exact Below_drewN _ _ _ | exact Below.refl _ _ | (trace_state; fail)
  clear hK K
  try simp only [Act.put, List.setIfInBounds_toArray, List.set_cons_zero, List.set_cons_succ]
  refine wpAnyH_ready (rs := [6]) (by kernel_rfl) (by simp) ?_
  refine AllReadyH.cons (o := { dst := some 84, op := Op.call { callee := Callee.value (Operand.func 19), args := #[Operand.tmp 83], argTypes := #[30] }, type := 3, pos := _, after := #[{ on := 5, ground := Ground.data }, { on := 4, ground := Ground.chain }, { on := 2, ground := Ground.guard }], guard := some (2, false) }) rfl (fun K hK => ?_) AllReadyH.nil
  go_simp
  refine (rf_Left g2 q2 LL n bd _ (rf_below HF hHeld)).mono ?_; rintro e v1 ⟨rfl, m2, rfl⟩; have hHeld := below_drewN hHeld m2
  go_wp2_with fail
  refine hK.out _ _ ?_ (fun hHeld => ?_)
  · (try dsimp only); first | assumption | exact Below.alloc hHeld hHeld.size _ | exact (Below.refl _ _).drew | exact Below.drew (Below.refl _ _) | exact Below_drewN _ _ _ | exact Below.refl _ _ | (trace_state; fail)
  clear hK K
  try simp only [Act.put, List.setIfInBounds_toArray, List.set_cons_zero, List.set_cons_succ]
  refine wpAnyH_take (i := 7) (oi := { dst := some 85, op := Op.binOp BinOp.neq 3 (Operand.tmp 82) (Operand.tmp 84) 3, type := 4, pos := _, after := #[{ on := 4, ground := Ground.data }, { on := 6, ground := Ground.data }, { on := 2, ground := Ground.guard }], guard := some (2, false) }) (v := ?_) rfl (by kernel_rfl) (by kernel_rfl) (by kernel_rfl) (fun _ _ _ h => by cases h.1) (Or.inl ⟨by rfl, ?_⟩) (by assumption) ?_
  rotate_left
  · intro wt hSw; (try dsimp only at hSw); have z1 := cellB hSw z1 zg; have z2 := cellB hSw z2 zg; first | (go_simp; done) | (go_simp; with_reducible rfl) | (trace_state; fail)
  try simp only [Act.put, List.setIfInBounds_toArray, List.set_cons_zero, List.set_cons_succ]
  refine wpAnyH_take (i := 8) (oi := { dst := some 86, op := Op.pick (Operand.tmp 80) (Operand.const (Value.bool true)) (Operand.tmp 85), type := 4, pos := _, after := #[{ on := 2, ground := Ground.data }, { on := 7, ground := Ground.data }], guard := none }) (v := ?_) rfl (by kernel_rfl) (by kernel_rfl) (by kernel_rfl) (fun _ _ _ h => by cases h.1) (Or.inl ⟨by rfl, ?_⟩) (by assumption) ?_
  rotate_left
  · intro wt hSw; (try dsimp only at hSw); have z1 := cellB hSw z1 zg; have z2 := cellB hSw z2 zg; first | (go_simp; done) | (go_simp; with_reducible rfl) | (trace_state; fail)
  try simp only [Act.put, List.setIfInBounds_toArray, List.set_cons_zero, List.set_cons_succ]
  refine wpAnyH_take (i := 9) (oi := { dst := some 87, op := Op.move (Operand.tmp 86), type := 4, pos := _, after := #[{ on := 8, ground := Ground.data }, { on := 6, ground := Ground.chain }], guard := none }) (v := ?_) rfl (by kernel_rfl) (by kernel_rfl) (by kernel_rfl) (fun _ _ _ h => by cases h.1) (Or.inl ⟨by rfl, ?_⟩) (by assumption) ?_
  rotate_left
  · intro wt hSw; (try dsimp only at hSw); have z1 := cellB hSw z1 zg; have z2 := cellB hSw z2 zg; first | (go_simp; done) | (go_simp; with_reducible rfl) | (trace_state; fail)
  try simp only [Act.put, List.setIfInBounds_toArray, List.set_cons_zero, List.set_cons_succ]
  refine wpAnyH_take (i := 10) (oi := { dst := some 88, op := Op.move (Operand.tmp 5), type := 28, pos := _, after := #[{ on := 9, ground := Ground.guard }], guard := some (9, false) }) (v := ?_) rfl (by kernel_rfl) (by kernel_rfl) (by kernel_rfl) (fun _ _ _ h => by cases h.1) (Or.inl ⟨by rfl, ?_⟩) (by assumption) ?_
  rotate_left
  · intro wt hSw; (try dsimp only at hSw); have z1 := cellB hSw z1 zg; have z2 := cellB hSw z2 zg; first | (go_simp; done) | (go_simp; with_reducible rfl) | (trace_state; fail)
  try simp only [Act.put, List.setIfInBounds_toArray, List.set_cons_zero, List.set_cons_succ]
  refine wpAnyH_take (i := 12) (oi := { dst := some 90, op := Op.move (Operand.tmp 6), type := 30, pos := _, after := #[{ on := 9, ground := Ground.guard }], guard := some (9, false) }) (v := ?_) rfl (by kernel_rfl) (by kernel_rfl) (by kernel_rfl) (fun _ _ _ h => by cases h.1) (Or.inl ⟨by rfl, ?_⟩) (by assumption) ?_
  rotate_left
  · intro wt hSw; (try dsimp only at hSw); have z1 := cellB hSw z1 zg; have z2 := cellB hSw z2 zg; first | (go_simp; done) | (go_simp; with_reducible rfl) | (trace_state; fail)
  try simp only [Act.put, List.setIfInBounds_toArray, List.set_cons_zero, List.set_cons_succ]
  refine wpAnyH_take (i := 13) (oi := { dst := some 91, op := Op.nilCheck (Operand.tmp 90), type := 0, pos := _, after := #[{ on := 12, ground := Ground.data }, { on := 9, ground := Ground.guard }], guard := some (9, false) }) (v := ?_) rfl (by kernel_rfl) (by kernel_rfl) (by kernel_rfl) (fun _ _ _ h => by cases h.1) (Or.inl ⟨by rfl, ?_⟩) (by assumption) ?_
  rotate_left
  · intro wt hSw; (try dsimp only at hSw); have z1 := cellB hSw z1 zg; have z2 := cellB hSw z2 zg; first | (go_simp; done) | (go_simp; with_reducible rfl) | (trace_state; fail)
  try simp only [Act.put, List.setIfInBounds_toArray, List.set_cons_zero, List.set_cons_succ]
  refine wpAnyH_take (i := 14) (oi := { dst := some 92, op := Op.fieldAddr 32 (Operand.tmp 91) 1, type := 0, pos := _, after := #[{ on := 13, ground := Ground.data }, { on := 9, ground := Ground.guard }], guard := some (9, false) }) (v := ?_) rfl (by kernel_rfl) (by kernel_rfl) (by kernel_rfl) (fun _ _ _ h => by cases h.1) (Or.inl ⟨by rfl, ?_⟩) (by assumption) ?_
  rotate_left
  · intro wt hSw; (try dsimp only at hSw); have z1 := cellB hSw z1 zg; have z2 := cellB hSw z2 zg; first | (go_simp; done) | (go_simp; with_reducible rfl) | (trace_state; fail)
  try simp only [Act.put, List.setIfInBounds_toArray, List.set_cons_zero, List.set_cons_succ]
  refine wpAnyH_take (i := 15) (oi := { dst := some 93, op := Op.load 3 (Operand.tmp 92), type := 3, pos := _, after := #[{ on := 14, ground := Ground.data }, { on := 9, ground := Ground.guard }], guard := some (9, false) }) (v := ?_) rfl (by kernel_rfl) (by kernel_rfl) (by kernel_rfl) (fun _ _ _ h => by cases h.1) (Or.inl ⟨by rfl, ?_⟩) (by assumption) ?_
  rotate_left
  · intro wt hSw; (try dsimp only at hSw); have z1 := cellB hSw z1 zg; have z2 := cellB hSw z2 zg; first | (go_simp; done) | (go_simp; with_reducible rfl) | (trace_state; fail)
  try simp only [Act.put, List.setIfInBounds_toArray, List.set_cons_zero, List.set_cons_succ]
  refine wpAnyH_ready (rs := [11]) (by kernel_rfl) (by simp) ?_
  refine AllReadyH.cons (o := { dst := some 89, op := Op.call { callee := Callee.value (Operand.func 20), args := #[Operand.tmp 88], argTypes := #[28] }, type := 3, pos := _, after := #[{ on := 10, ground := Ground.data }, { on := 9, ground := Ground.chain }, { on := 9, ground := Ground.guard }], guard := some (9, false) }) rfl (fun K hK => ?_) AllReadyH.nil
  go_simp
  refine (reader_At g q LL n bd _ (rd_below HR hHeld)).mono ?_; rintro e v1 ⟨rfl, rfl⟩
  go_wp2_with fail
  refine hK.out _ _ ?_ (fun hHeld => ?_)
  · (try dsimp only); first | assumption | exact Below.alloc hHeld hHeld.size _ | exact (Below.refl _ _).drew | exact Below.drew (Below.refl _ _) | exact Below_drewN _ _ _ | exact Below.refl _ _ | (trace_state; fail)
  clear hK K
  try simp only [Act.put, List.setIfInBounds_toArray, List.set_cons_zero, List.set_cons_succ]
  refine wpAnyH_take (i := 16) (oi := { dst := some 94, op := Op.binOp BinOp.neq 3 (Operand.tmp 89) (Operand.tmp 93) 3, type := 4, pos := _, after := #[{ on := 11, ground := Ground.data }, { on := 15, ground := Ground.data }, { on := 9, ground := Ground.guard }], guard := some (9, false) }) (v := ?_) rfl (by kernel_rfl) (by kernel_rfl) (by kernel_rfl) (fun _ _ _ h => by cases h.1) (Or.inl ⟨by rfl, ?_⟩) (by assumption) ?_
  rotate_left
  · intro wt hSw; (try dsimp only at hSw); have z1 := cellB hSw z1 zg; have z2 := cellB hSw z2 zg; first | (go_simp; done) | (go_simp; with_reducible rfl) | (trace_state; fail)
  try simp only [Act.put, List.setIfInBounds_toArray, List.set_cons_zero, List.set_cons_succ]
  refine wpAnyH_take (i := 17) (oi := { dst := some 95, op := Op.pick (Operand.tmp 87) (Operand.const (Value.bool true)) (Operand.tmp 94), type := 4, pos := _, after := #[{ on := 9, ground := Ground.data }, { on := 16, ground := Ground.data }], guard := none }) (v := ?_) rfl (by kernel_rfl) (by kernel_rfl) (by kernel_rfl) (fun _ _ _ h => by cases h.1) (Or.inl ⟨by rfl, ?_⟩) (by assumption) ?_
  rotate_left
  · intro wt hSw; (try dsimp only at hSw); have z1 := cellB hSw z1 zg; have z2 := cellB hSw z2 zg; first | (go_simp; done) | (go_simp; with_reducible rfl) | (trace_state; fail)
  try simp only [Act.put, List.setIfInBounds_toArray, List.set_cons_zero, List.set_cons_succ]
  refine wpAnyH_take (i := 18) (oi := { dst := some 96, op := Op.move (Operand.tmp 95), type := 4, pos := _, after := #[{ on := 17, ground := Ground.data }, { on := 11, ground := Ground.chain }], guard := none }) (v := ?_) rfl (by kernel_rfl) (by kernel_rfl) (by kernel_rfl) (fun _ _ _ h => by cases h.1) (Or.inl ⟨by rfl, ?_⟩) (by assumption) ?_
  rotate_left
  · intro wt hSw; (try dsimp only at hSw); have z1 := cellB hSw z1 zg; have z2 := cellB hSw z2 zg; first | (go_simp; done) | (go_simp; with_reducible rfl) | (trace_state; fail)
  try simp only [Act.put, List.setIfInBounds_toArray, List.set_cons_zero, List.set_cons_succ]
  refine wpAnyH_take (i := 19) (oi := { dst := some 97, op := Op.move (Operand.tmp 5), type := 28, pos := _, after := #[{ on := 18, ground := Ground.guard }], guard := some (18, false) }) (v := ?_) rfl (by kernel_rfl) (by kernel_rfl) (by kernel_rfl) (fun _ _ _ h => by cases h.1) (Or.inl ⟨by rfl, ?_⟩) (by assumption) ?_
  rotate_left
  · intro wt hSw; (try dsimp only at hSw); have z1 := cellB hSw z1 zg; have z2 := cellB hSw z2 zg; first | (go_simp; done) | (go_simp; with_reducible rfl) | (trace_state; fail)
  try simp only [Act.put, List.setIfInBounds_toArray, List.set_cons_zero, List.set_cons_succ]
  refine wpAnyH_take (i := 21) (oi := { dst := some 99, op := Op.move (Operand.tmp 6), type := 30, pos := _, after := #[{ on := 18, ground := Ground.guard }], guard := some (18, false) }) (v := ?_) rfl (by kernel_rfl) (by kernel_rfl) (by kernel_rfl) (fun _ _ _ h => by cases h.1) (Or.inl ⟨by rfl, ?_⟩) (by assumption) ?_
  rotate_left
  · intro wt hSw; (try dsimp only at hSw); have z1 := cellB hSw z1 zg; have z2 := cellB hSw z2 zg; first | (go_simp; done) | (go_simp; with_reducible rfl) | (trace_state; fail)
  try simp only [Act.put, List.setIfInBounds_toArray, List.set_cons_zero, List.set_cons_succ]
  refine wpAnyH_take (i := 22) (oi := { dst := some 100, op := Op.nilCheck (Operand.tmp 99), type := 0, pos := _, after := #[{ on := 21, ground := Ground.data }, { on := 18, ground := Ground.guard }], guard := some (18, false) }) (v := ?_) rfl (by kernel_rfl) (by kernel_rfl) (by kernel_rfl) (fun _ _ _ h => by cases h.1) (Or.inl ⟨by rfl, ?_⟩) (by assumption) ?_
  rotate_left
  · intro wt hSw; (try dsimp only at hSw); have z1 := cellB hSw z1 zg; have z2 := cellB hSw z2 zg; first | (go_simp; done) | (go_simp; with_reducible rfl) | (trace_state; fail)
  try simp only [Act.put, List.setIfInBounds_toArray, List.set_cons_zero, List.set_cons_succ]
  refine wpAnyH_take (i := 23) (oi := { dst := some 101, op := Op.fieldAddr 32 (Operand.tmp 100) 2, type := 0, pos := _, after := #[{ on := 22, ground := Ground.data }, { on := 18, ground := Ground.guard }], guard := some (18, false) }) (v := ?_) rfl (by kernel_rfl) (by kernel_rfl) (by kernel_rfl) (fun _ _ _ h => by cases h.1) (Or.inl ⟨by rfl, ?_⟩) (by assumption) ?_
  rotate_left
  · intro wt hSw; (try dsimp only at hSw); have z1 := cellB hSw z1 zg; have z2 := cellB hSw z2 zg; first | (go_simp; done) | (go_simp; with_reducible rfl) | (trace_state; fail)
  try simp only [Act.put, List.setIfInBounds_toArray, List.set_cons_zero, List.set_cons_succ]
  refine wpAnyH_take (i := 24) (oi := { dst := some 102, op := Op.load 4 (Operand.tmp 101), type := 4, pos := _, after := #[{ on := 23, ground := Ground.data }, { on := 18, ground := Ground.guard }], guard := some (18, false) }) (v := ?_) rfl (by kernel_rfl) (by kernel_rfl) (by kernel_rfl) (fun _ _ _ h => by cases h.1) (Or.inl ⟨by rfl, ?_⟩) (by assumption) ?_
  rotate_left
  · intro wt hSw; (try dsimp only at hSw); have z1 := cellB hSw z1 zg; have z2 := cellB hSw z2 zg; first | (go_simp; done) | (go_simp; with_reducible rfl) | (trace_state; fail)
  try simp only [Act.put, List.setIfInBounds_toArray, List.set_cons_zero, List.set_cons_succ]
  refine wpAnyH_ready (rs := [20]) (by kernel_rfl) (by simp) ?_
  refine AllReadyH.cons (o := { dst := some 98, op := Op.call { callee := Callee.value (Operand.func 21), args := #[Operand.tmp 97], argTypes := #[28] }, type := 4, pos := _, after := #[{ on := 19, ground := Ground.data }, { on := 18, ground := Ground.chain }, { on := 18, ground := Ground.guard }], guard := some (18, false) }) rfl (fun K hK => ?_) AllReadyH.nil
  go_simp
  refine (reader_Bad g q LL n bd _ (rd_below HR hHeld)).mono ?_; rintro e v1 ⟨rfl, rfl⟩
  go_wp2_with fail
  refine hK.out _ _ ?_ (fun hHeld => ?_)
  · (try dsimp only); first | assumption | exact Below.alloc hHeld hHeld.size _ | exact (Below.refl _ _).drew | exact Below.drew (Below.refl _ _) | exact Below_drewN _ _ _ | exact Below.refl _ _ | (trace_state; fail)
  clear hK K
  try simp only [Act.put, List.setIfInBounds_toArray, List.set_cons_zero, List.set_cons_succ]
  refine wpAnyH_take (i := 25) (oi := { dst := some 103, op := Op.binOp BinOp.neq 4 (Operand.tmp 98) (Operand.tmp 102) 4, type := 4, pos := _, after := #[{ on := 20, ground := Ground.data }, { on := 24, ground := Ground.data }, { on := 18, ground := Ground.guard }], guard := some (18, false) }) (v := ?_) rfl (by kernel_rfl) (by kernel_rfl) (by kernel_rfl) (fun _ _ _ h => by cases h.1) (Or.inl ⟨by rfl, ?_⟩) (by assumption) ?_
  rotate_left
  · intro wt hSw; (try dsimp only at hSw); have z1 := cellB hSw z1 zg; have z2 := cellB hSw z2 zg; first | (go_simp; done) | (go_simp; with_reducible rfl) | (trace_state; fail)
  try simp only [Act.put, List.setIfInBounds_toArray, List.set_cons_zero, List.set_cons_succ]
  refine wpAnyH_take (i := 26) (oi := { dst := some 104, op := Op.pick (Operand.tmp 96) (Operand.const (Value.bool true)) (Operand.tmp 103), type := 4, pos := _, after := #[{ on := 18, ground := Ground.data }, { on := 25, ground := Ground.data }], guard := none }) (v := ?_) rfl (by kernel_rfl) (by kernel_rfl) (by kernel_rfl) (fun _ _ _ h => by cases h.1) (Or.inl ⟨by rfl, ?_⟩) (by assumption) ?_
  rotate_left
  · intro wt hSw; (try dsimp only at hSw); have z1 := cellB hSw z1 zg; have z2 := cellB hSw z2 zg; first | (go_simp; done) | (go_simp; with_reducible rfl) | (trace_state; fail)
  try simp only [Act.put, List.setIfInBounds_toArray, List.set_cons_zero, List.set_cons_succ]
  refine wpAnyH_done (by kernel_rfl) ?_ _
  exact ⟨rfl, _, _, _, _, _, _, _, _, _, _, _, _, _, _, _, _, _, _, _, _, _, _, _, _, _, _, _, rfl, hHeld, rfl⟩
end Go.Proofs.Yteffcopdhimbaaa
