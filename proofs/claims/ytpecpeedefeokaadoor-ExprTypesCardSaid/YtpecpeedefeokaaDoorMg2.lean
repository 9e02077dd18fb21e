/- Merged texts: ExR2. -/
import Derived.Test.YtpecpeedefeokaaDoorExL
/- Layer 26: the document's Type, of an expression with none within it. -/
namespace Go.Proofs.YtpecpeedefeokaaDoor
open Go.RowKit
set_option linter.unusedSimpArgs false
set_option linter.unusedVariables false
set_option maxRecDepth 100000 in
set_option maxHeartbeats 8000000 in
theorem ref26_Type0Two (a b c d : Value) (s : Sc) (op t n m : Int) (h2 : op = 2) (v : Value) (w : World) (hs : ScAt w a b d s) (hv : ExV w v ⟨op, t, n, m, []⟩) : Calls Tryd.prog 11 #[.agg #[a, b, c, d], v] w fun r w' => r = .returned (.int .i64 (leafT s ⟨op, t, n, m, []⟩)) ∧ Below w.heap.size w w' := by
  obtain ⟨sl, rfl, _, hrl⟩ := hv
  obtain ⟨al, cl, rfl⟩ := row_get hrl
  have HS := Lib.hid (fun W (h : Below w.heap.size w W) => hs.below h)
  obtain ⟨sa, ca, rfl⟩ := row_get hs.vs
  obtain ⟨sb, cb, rfl⟩ := row_get hs.bs
  obtain ⟨sd, cd, rfl⟩ := row_get hs.ss
  obtain ⟨NV, hNV⟩ : ∃ N, s.vars.length = N := ⟨_, rfl⟩
  obtain ⟨NB, hNB⟩ : ∃ N, s.blocks.length = N := ⟨_, rfl⟩
  obtain ⟨NS, hNS⟩ : ∃ N, s.slots.length = N := ⟨_, rfl⟩
  have HNV := Lib.hid hNV
  have HNB := Lib.hid hNB
  have HNS := Lib.hid hNS
  have hlv := hs.vs.len
  have hlb := hs.bs.len
  have hls := hs.ss.len
  simp only [List.length_nil] at HS ⊢
  rw [hNV, hNB, hNS] at HS
  rw [hNV] at hlv ⊢
  rw [hNB] at hlb ⊢
  rw [hNS] at hls ⊢
  clear hs hNV hNB hNS hrl
  have hK0 := ref01_Right 0
  rw [show kRight 0 = false from rfl] at hK0
  have hKt := ref01_Right t
  have HW := Lib.hid (show ∀ W, W = (w.alloc (.cells #[.slice sa NV ca, .slice sb NB cb, c, .slice sd NS cd] 37)).alloc (.cells #[.int .i64 op, .int .i64 t, .int .i64 n, .int .i64 m, .slice al 0 cl] 30) → Below w.heap.size w W ∧ W.heap[w.heap.size]? = some (.cells #[.slice sa NV ca, .slice sb NB cb, c, .slice sd NS cd] 37) ∧ W.heap[w.heap.size + 1]? = some (.cells #[.int .i64 op, .int .i64 t, .int .i64 n, .int .i64 m, .slice al 0 cl] 30) from by
    rintro W rfl
    refine ⟨by (repeat' (first | (with_reducible exact Below.refl _ _) | (with_reducible assumption) | (with_reducible refine below_drewN ?_ _) | (with_reducible refine Below.alloc ?_ ?_ _) | (with_reducible refine Below.drew ?_) | (with_reducible refine Below.setCell ?_ ?_ _) | go_size)), ?_, get_last (by simp)⟩
    rw [get_past (by simp)]; exact get_last rfl)
  · subst h2
    obtain ⟨W0, hW0⟩ : ∃ W0, W0 = (w.alloc (.cells #[.slice sa NV ca, .slice sb NB cb, c, .slice sd NS cd] 37)).alloc (.cells #[.int .i64 2, .int .i64 t, .int .i64 n, .int .i64 m, .slice al 0 cl] 30) := ⟨_, rfl⟩
    obtain ⟨hbW, ho0, ho1⟩ := HW.out W0 hW0
    have HW0 := Lib.hid hW0
    have HB0 := Lib.hid hbW
    have z0 := heap_lt ho0
    have z1 := heap_lt ho1
    have s0 : W0.cell? ⟨w.heap.size, 0, none⟩ = some (.slice sa NV ca) := obj_cell ho0 (i := 0) rfl
    have g0 : W0.cell? ⟨w.heap.size + 1, 0, none⟩ = some (.int .i64 2) := obj_cell ho1 (i := 0) rfl
    have g1 : W0.cell? ⟨w.heap.size + 1, 1, none⟩ = some (.int .i64 t) := obj_cell ho1 (i := 1) rfl
    have g2 : W0.cell? ⟨w.heap.size + 1, 2, none⟩ = some (.int .i64 n) := obj_cell ho1 (i := 2) rfl
    have g3 : W0.cell? ⟨w.heap.size + 1, 3, none⟩ = some (.int .i64 m) := obj_cell ho1 (i := 3) rfl
    clear hW0 hbW ho0 ho1 hKt HW
    by_cases h0 : t = 0
    case neg =>
      have e0 : (t == 0) = false := by simpa using h0
      have hres := Lib.hid (show leafT s ⟨2, t, n, m, []⟩ = 0 by unfold leafT; simp [h0])
      clear h0
      go_enter Tryd.func11, Tryd.ntmps11
      go_upto_region 17 with fail
      rw [← HW0.out]
      refine wp_region_held_drew (S := (fun w' => Below W0.heap.size W0 w')) (by kernel_rfl) ?_ (fun hHeld => ?_)
      · (try dsimp only); first | assumption | exact Below.alloc hHeld hHeld.size _ | exact (Below.refl _ _).drew | exact Below.drew (Below.refl _ _) | exact Below_drewN _ _ _ | exact Below.refl _ _ | (trace_state; fail)
      refine wpAnyH_take (i := 0) (oi := { dst := some 77, op := Op.move (Operand.tmp 5), type := 3, pos := _, after := #[], guard := none }) (v := ?_) rfl (by kernel_rfl) (by kernel_rfl) (by kernel_rfl) (fun _ _ _ h => h) (Or.inl ⟨by rfl, ?_⟩) (by assumption) ?_
      rotate_left
      · intro wt hSw; (try dsimp only at hSw); have s0 := cellB hSw s0 z0; have g0 := cellB hSw g0 z1; have g1 := cellB hSw g1 z1; have g2 := cellB hSw g2 z1; have g3 := cellB hSw g3 z1; first | (go_simp; done) | (go_simp; with_reducible rfl) | (trace_state; fail)
      try simp only [Act.put, List.setIfInBounds_toArray, List.set_cons_zero, List.set_cons_succ]
      refine wpAnyH_take (i := 1) (oi := { dst := some 78, op := Op.fieldAddr 30 (Operand.tmp 3) 0, type := 0, pos := _, after := #[], guard := none }) (v := ?_) rfl (by kernel_rfl) (by kernel_rfl) (by kernel_rfl) (fun _ _ _ h => h) (Or.inl ⟨by rfl, ?_⟩) (by assumption) ?_
      rotate_left
      · intro wt hSw; (try dsimp only at hSw); have s0 := cellB hSw s0 z0; have g0 := cellB hSw g0 z1; have g1 := cellB hSw g1 z1; have g2 := cellB hSw g2 z1; have g3 := cellB hSw g3 z1; first | (go_simp; done) | (go_simp; with_reducible rfl) | (trace_state; fail)
      try simp only [Act.put, List.setIfInBounds_toArray, List.set_cons_zero, List.set_cons_succ]
      refine wpAnyH_take (i := 2) (oi := { dst := some 79, op := Op.load 3 (Operand.tmp 78), type := 3, pos := _, after := #[{ on := 1, ground := Ground.data }], guard := none }) (v := ?_) rfl (by kernel_rfl) (by kernel_rfl) (by kernel_rfl) (fun _ _ _ h => h) (Or.inl ⟨by rfl, ?_⟩) (by assumption) ?_
      rotate_left
      · intro wt hSw; (try dsimp only at hSw); have s0 := cellB hSw s0 z0; have g0 := cellB hSw g0 z1; have g1 := cellB hSw g1 z1; have g2 := cellB hSw g2 z1; have g3 := cellB hSw g3 z1; first | (go_simp; done) | (go_simp; with_reducible rfl) | (trace_state; fail)
      try simp only [Act.put, List.setIfInBounds_toArray, List.set_cons_zero, List.set_cons_succ]
      refine wpAnyH_take (i := 3) (oi := { dst := some 80, op := Op.binOp BinOp.sub 3 (Operand.tmp 79) (Operand.const (Value.int IntKind.i64 2)) 3, type := 3, pos := _, after := #[{ on := 2, ground := Ground.data }], guard := none }) (v := ?_) rfl (by kernel_rfl) (by kernel_rfl) (by kernel_rfl) (fun _ _ _ h => h) (Or.inl ⟨by rfl, ?_⟩) (by assumption) ?_
      rotate_left
      · intro wt hSw; (try dsimp only at hSw); have s0 := cellB hSw s0 z0; have g0 := cellB hSw g0 z1; have g1 := cellB hSw g1 z1; have g2 := cellB hSw g2 z1; have g3 := cellB hSw g3 z1; first | (go_simp; done) | (go_simp; with_reducible rfl) | (trace_state; fail)
      try simp only [Act.put, List.setIfInBounds_toArray, List.set_cons_zero, List.set_cons_succ]
      refine wpAnyH_take (i := 4) (oi := { dst := some 81, op := Op.binOp BinOp.quo 3 (Operand.tmp 80) (Operand.const (Value.int IntKind.i64 2)) 3, type := 3, pos := _, after := #[{ on := 3, ground := Ground.data }], guard := none }) (v := ?_) rfl (by kernel_rfl) (by kernel_rfl) (by kernel_rfl) (fun _ _ _ h => h) (Or.inl ⟨by rfl, ?_⟩) (by assumption) ?_
      rotate_left
      · intro wt hSw; (try dsimp only at hSw); have s0 := cellB hSw s0 z0; have g0 := cellB hSw g0 z1; have g1 := cellB hSw g1 z1; have g2 := cellB hSw g2 z1; have g3 := cellB hSw g3 z1; first | (go_simp; done) | (go_simp; with_reducible rfl) | (trace_state; fail)
      try simp only [Act.put, List.setIfInBounds_toArray, List.set_cons_zero, List.set_cons_succ]
      refine wpAnyH_take (i := 5) (oi := { dst := some 82, op := Op.binOp BinOp.eql 3 (Operand.tmp 77) (Operand.tmp 81) 3, type := 4, pos := _, after := #[{ on := 0, ground := Ground.data }, { on := 4, ground := Ground.data }], guard := none }) (v := ?_) rfl (by kernel_rfl) (by kernel_rfl) (by kernel_rfl) (fun _ _ _ h => h) (Or.inl ⟨by rfl, ?_⟩) (by assumption) ?_
      rotate_left
      · intro wt hSw; (try dsimp only at hSw); have s0 := cellB hSw s0 z0; have g0 := cellB hSw g0 z1; have g1 := cellB hSw g1 z1; have g2 := cellB hSw g2 z1; have g3 := cellB hSw g3 z1; first | (go_simp; done) | (go_simp; with_reducible rfl) | (trace_state; fail)
      try simp only [Act.put, List.setIfInBounds_toArray, List.set_cons_zero, List.set_cons_succ]
      refine wpAnyH_take (i := 6) (oi := { dst := some 83, op := Op.move (Operand.tmp 82), type := 4, pos := _, after := #[{ on := 5, ground := Ground.data }], guard := none }) (v := ?_) rfl (by kernel_rfl) (by kernel_rfl) (by kernel_rfl) (fun _ _ _ h => h) (Or.inl ⟨by rfl, ?_⟩) (by assumption) ?_
      rotate_left
      · intro wt hSw; (try dsimp only at hSw); have s0 := cellB hSw s0 z0; have g0 := cellB hSw g0 z1; have g1 := cellB hSw g1 z1; have g2 := cellB hSw g2 z1; have g3 := cellB hSw g3 z1; first | (go_simp; done) | (go_simp; with_reducible rfl) | (trace_state; fail)
      try simp only [Act.put, List.setIfInBounds_toArray, List.set_cons_zero, List.set_cons_succ]
      refine wpAnyH_take (i := 7) (oi := { dst := some 84, op := Op.fieldAddr 30 (Operand.tmp 3) 1, type := 0, pos := _, after := #[{ on := 6, ground := Ground.guard }], guard := some (6, true) }) (v := ?_) rfl (by kernel_rfl) (by kernel_rfl) (by kernel_rfl) (fun _ _ _ h => h) (Or.inl ⟨by rfl, ?_⟩) (by assumption) ?_
      rotate_left
      · intro wt hSw; (try dsimp only at hSw); have s0 := cellB hSw s0 z0; have g0 := cellB hSw g0 z1; have g1 := cellB hSw g1 z1; have g2 := cellB hSw g2 z1; have g3 := cellB hSw g3 z1; first | (go_simp; done) | (go_simp; with_reducible rfl) | (trace_state; fail)
      try simp only [Act.put, List.setIfInBounds_toArray, List.set_cons_zero, List.set_cons_succ]
      refine wpAnyH_take (i := 8) (oi := { dst := some 85, op := Op.load 3 (Operand.tmp 84), type := 3, pos := _, after := #[{ on := 7, ground := Ground.data }, { on := 6, ground := Ground.guard }], guard := some (6, true) }) (v := ?_) rfl (by kernel_rfl) (by kernel_rfl) (by kernel_rfl) (fun _ _ _ h => h) (Or.inl ⟨by rfl, ?_⟩) (by assumption) ?_
      rotate_left
      · intro wt hSw; (try dsimp only at hSw); have s0 := cellB hSw s0 z0; have g0 := cellB hSw g0 z1; have g1 := cellB hSw g1 z1; have g2 := cellB hSw g2 z1; have g3 := cellB hSw g3 z1; first | (go_simp; done) | (go_simp; with_reducible rfl) | (trace_state; fail)
      try simp only [Act.put, List.setIfInBounds_toArray, List.set_cons_zero, List.set_cons_succ]
      refine wpAnyH_take (i := 9) (oi := { dst := some 86, op := Op.binOp BinOp.eql 3 (Operand.tmp 85) (Operand.const (Value.int IntKind.i64 0)) 3, type := 4, pos := _, after := #[{ on := 8, ground := Ground.data }, { on := 6, ground := Ground.guard }], guard := some (6, true) }) (v := ?_) rfl (by kernel_rfl) (by kernel_rfl) (by kernel_rfl) (fun _ _ _ h => h) (Or.inl ⟨by rfl, ?_⟩) (by assumption) ?_
      rotate_left
      · intro wt hSw; (try dsimp only at hSw); have s0 := cellB hSw s0 z0; have g0 := cellB hSw g0 z1; have g1 := cellB hSw g1 z1; have g2 := cellB hSw g2 z1; have g3 := cellB hSw g3 z1; first | (go_simp; done) | (go_simp; with_reducible rfl) | (trace_state; fail)
      try simp only [Act.put, List.setIfInBounds_toArray, List.set_cons_zero, List.set_cons_succ]
      refine wpAnyH_take (i := 10) (oi := { dst := some 87, op := Op.pick (Operand.tmp 83) (Operand.tmp 86) (Operand.const (Value.bool false)), type := 4, pos := _, after := #[{ on := 6, ground := Ground.data }, { on := 9, ground := Ground.data }], guard := none }) (v := ?_) rfl (by kernel_rfl) (by kernel_rfl) (by kernel_rfl) (fun _ _ _ h => h) (Or.inl ⟨by rfl, ?_⟩) (by assumption) ?_
      rotate_left
      · intro wt hSw; (try dsimp only at hSw); have s0 := cellB hSw s0 z0; have g0 := cellB hSw g0 z1; have g1 := cellB hSw g1 z1; have g2 := cellB hSw g2 z1; have g3 := cellB hSw g3 z1; first | (go_simp; done) | (go_simp; with_reducible rfl) | (trace_state; fail)
      try simp only [Act.put, List.setIfInBounds_toArray, List.set_cons_zero, List.set_cons_succ]
      refine wpAnyH_take (i := 11) (oi := { dst := some 88, op := Op.move (Operand.tmp 87), type := 4, pos := _, after := #[{ on := 10, ground := Ground.data }, { on := 6, ground := Ground.chain }], guard := none }) (v := ?_) rfl (by kernel_rfl) (by kernel_rfl) (by kernel_rfl) (fun _ _ _ h => h) (Or.inl ⟨by rfl, ?_⟩) (by assumption) ?_
      rotate_left
      · intro wt hSw; (try dsimp only at hSw); have s0 := cellB hSw s0 z0; have g0 := cellB hSw g0 z1; have g1 := cellB hSw g1 z1; have g2 := cellB hSw g2 z1; have g3 := cellB hSw g3 z1; first | (go_simp; done) | (go_simp; with_reducible rfl) | (trace_state; fail)
      try simp only [Act.put, List.setIfInBounds_toArray, List.set_cons_zero, List.set_cons_succ]
      refine wpAnyH_take (i := 12) (oi := { dst := some 89, op := Op.fieldAddr 30 (Operand.tmp 3) 3, type := 0, pos := _, after := #[{ on := 11, ground := Ground.guard }], guard := some (11, true) }) (v := undef) rfl (by kernel_rfl) (by kernel_rfl) (by kernel_rfl) (fun _ _ _ h => h) (Or.inr ⟨by rfl, rfl⟩) (by assumption) ?_
      try simp only [Act.put, List.setIfInBounds_toArray, List.set_cons_zero, List.set_cons_succ]
      refine wpAnyH_take (i := 13) (oi := { dst := some 90, op := Op.load 3 (Operand.tmp 89), type := 3, pos := _, after := #[{ on := 12, ground := Ground.data }, { on := 11, ground := Ground.guard }], guard := some (11, true) }) (v := undef) rfl (by kernel_rfl) (by kernel_rfl) (by kernel_rfl) (fun _ _ _ h => h) (Or.inr ⟨by rfl, rfl⟩) (by assumption) ?_
      try simp only [Act.put, List.setIfInBounds_toArray, List.set_cons_zero, List.set_cons_succ]
      refine wpAnyH_take (i := 14) (oi := { dst := some 91, op := Op.binOp BinOp.eql 3 (Operand.tmp 90) (Operand.const (Value.int IntKind.i64 0)) 3, type := 4, pos := _, after := #[{ on := 13, ground := Ground.data }, { on := 11, ground := Ground.guard }], guard := some (11, true) }) (v := undef) rfl (by kernel_rfl) (by kernel_rfl) (by kernel_rfl) (fun _ _ _ h => h) (Or.inr ⟨by rfl, rfl⟩) (by assumption) ?_
      try simp only [Act.put, List.setIfInBounds_toArray, List.set_cons_zero, List.set_cons_succ]
      refine wpAnyH_take (i := 15) (oi := { dst := some 92, op := Op.pick (Operand.tmp 88) (Operand.tmp 91) (Operand.const (Value.bool false)), type := 4, pos := _, after := #[{ on := 11, ground := Ground.data }, { on := 14, ground := Ground.data }], guard := none }) (v := ?_) rfl (by kernel_rfl) (by kernel_rfl) (by kernel_rfl) (fun _ _ _ h => h) (Or.inl ⟨by rfl, ?_⟩) (by assumption) ?_
      rotate_left
      · intro wt hSw; (try dsimp only at hSw); have s0 := cellB hSw s0 z0; have g0 := cellB hSw g0 z1; have g1 := cellB hSw g1 z1; have g2 := cellB hSw g2 z1; have g3 := cellB hSw g3 z1; first | (go_simp; done) | (go_simp; with_reducible rfl) | (trace_state; fail)
      try simp only [Act.put, List.setIfInBounds_toArray, List.set_cons_zero, List.set_cons_succ]
      refine wpAnyH_take (i := 16) (oi := { dst := some 93, op := Op.move (Operand.tmp 92), type := 4, pos := _, after := #[{ on := 15, ground := Ground.data }, { on := 11, ground := Ground.chain }], guard := none }) (v := ?_) rfl (by kernel_rfl) (by kernel_rfl) (by kernel_rfl) (fun _ _ _ h => h) (Or.inl ⟨by rfl, ?_⟩) (by assumption) ?_
      rotate_left
      · intro wt hSw; (try dsimp only at hSw); have s0 := cellB hSw s0 z0; have g0 := cellB hSw g0 z1; have g1 := cellB hSw g1 z1; have g2 := cellB hSw g2 z1; have g3 := cellB hSw g3 z1; first | (go_simp; done) | (go_simp; with_reducible rfl) | (trace_state; fail)
      try simp only [Act.put, List.setIfInBounds_toArray, List.set_cons_zero, List.set_cons_succ]
      refine wpAnyH_take (i := 17) (oi := { dst := some 94, op := Op.fieldAddr 30 (Operand.tmp 3) 2, type := 0, pos := _, after := #[{ on := 16, ground := Ground.guard }], guard := some (16, true) }) (v := undef) rfl (by kernel_rfl) (by kernel_rfl) (by kernel_rfl) (fun _ _ _ h => h) (Or.inr ⟨by rfl, rfl⟩) (by assumption) ?_
      try simp only [Act.put, List.setIfInBounds_toArray, List.set_cons_zero, List.set_cons_succ]
      refine wpAnyH_take (i := 18) (oi := { dst := some 95, op := Op.load 3 (Operand.tmp 94), type := 3, pos := _, after := #[{ on := 17, ground := Ground.data }, { on := 16, ground := Ground.guard }], guard := some (16, true) }) (v := undef) rfl (by kernel_rfl) (by kernel_rfl) (by kernel_rfl) (fun _ _ _ h => h) (Or.inr ⟨by rfl, rfl⟩) (by assumption) ?_
      try simp only [Act.put, List.setIfInBounds_toArray, List.set_cons_zero, List.set_cons_succ]
      refine wpAnyH_take (i := 19) (oi := { dst := some 96, op := Op.binOp BinOp.geq 3 (Operand.tmp 95) (Operand.const (Value.int IntKind.i64 0)) 3, type := 4, pos := _, after := #[{ on := 18, ground := Ground.data }, { on := 16, ground := Ground.guard }], guard := some (16, true) }) (v := undef) rfl (by kernel_rfl) (by kernel_rfl) (by kernel_rfl) (fun _ _ _ h => h) (Or.inr ⟨by rfl, rfl⟩) (by assumption) ?_
      try simp only [Act.put, List.setIfInBounds_toArray, List.set_cons_zero, List.set_cons_succ]
      refine wpAnyH_take (i := 20) (oi := { dst := some 97, op := Op.pick (Operand.tmp 93) (Operand.tmp 96) (Operand.const (Value.bool false)), type := 4, pos := _, after := #[{ on := 16, ground := Ground.data }, { on := 19, ground := Ground.data }], guard := none }) (v := ?_) rfl (by kernel_rfl) (by kernel_rfl) (by kernel_rfl) (fun _ _ _ h => h) (Or.inl ⟨by rfl, ?_⟩) (by assumption) ?_
      rotate_left
      · intro wt hSw; (try dsimp only at hSw); have s0 := cellB hSw s0 z0; have g0 := cellB hSw g0 z1; have g1 := cellB hSw g1 z1; have g2 := cellB hSw g2 z1; have g3 := cellB hSw g3 z1; first | (go_simp; done) | (go_simp; with_reducible rfl) | (trace_state; fail)
      try simp only [Act.put, List.setIfInBounds_toArray, List.set_cons_zero, List.set_cons_succ]
      refine wpAnyH_take (i := 21) (oi := { dst := some 98, op := Op.move (Operand.tmp 97), type := 4, pos := _, after := #[{ on := 20, ground := Ground.data }, { on := 16, ground := Ground.chain }], guard := none }) (v := ?_) rfl (by kernel_rfl) (by kernel_rfl) (by kernel_rfl) (fun _ _ _ h => h) (Or.inl ⟨by rfl, ?_⟩) (by assumption) ?_
      rotate_left
      · intro wt hSw; (try dsimp only at hSw); have s0 := cellB hSw s0 z0; have g0 := cellB hSw g0 z1; have g1 := cellB hSw g1 z1; have g2 := cellB hSw g2 z1; have g3 := cellB hSw g3 z1; first | (go_simp; done) | (go_simp; with_reducible rfl) | (trace_state; fail)
      try simp only [Act.put, List.setIfInBounds_toArray, List.set_cons_zero, List.set_cons_succ]
      refine wpAnyH_take (i := 22) (oi := { dst := some 99, op := Op.fieldAddr 30 (Operand.tmp 3) 2, type := 0, pos := _, after := #[{ on := 21, ground := Ground.guard }], guard := some (21, true) }) (v := undef) rfl (by kernel_rfl) (by kernel_rfl) (by kernel_rfl) (fun _ _ _ h => h) (Or.inr ⟨by rfl, rfl⟩) (by assumption) ?_
      try simp only [Act.put, List.setIfInBounds_toArray, List.set_cons_zero, List.set_cons_succ]
      refine wpAnyH_take (i := 23) (oi := { dst := some 100, op := Op.load 3 (Operand.tmp 99), type := 3, pos := _, after := #[{ on := 22, ground := Ground.data }, { on := 21, ground := Ground.guard }], guard := some (21, true) }) (v := undef) rfl (by kernel_rfl) (by kernel_rfl) (by kernel_rfl) (fun _ _ _ h => h) (Or.inr ⟨by rfl, rfl⟩) (by assumption) ?_
      try simp only [Act.put, List.setIfInBounds_toArray, List.set_cons_zero, List.set_cons_succ]
      refine wpAnyH_take (i := 24) (oi := { dst := some 101, op := Op.fieldAddr 37 (Operand.tmp 2) 0, type := 0, pos := _, after := #[{ on := 21, ground := Ground.guard }], guard := some (21, true) }) (v := undef) rfl (by kernel_rfl) (by kernel_rfl) (by kernel_rfl) (fun _ _ _ h => h) (Or.inr ⟨by rfl, rfl⟩) (by assumption) ?_
      try simp only [Act.put, List.setIfInBounds_toArray, List.set_cons_zero, List.set_cons_succ]
      refine wpAnyH_take (i := 25) (oi := { dst := some 102, op := Op.load 23 (Operand.tmp 101), type := 23, pos := _, after := #[{ on := 24, ground := Ground.data }, { on := 21, ground := Ground.guard }], guard := some (21, true) }) (v := undef) rfl (by kernel_rfl) (by kernel_rfl) (by kernel_rfl) (fun _ _ _ h => h) (Or.inr ⟨by rfl, rfl⟩) (by assumption) ?_
      try simp only [Act.put, List.setIfInBounds_toArray, List.set_cons_zero, List.set_cons_succ]
      refine wpAnyH_take (i := 26) (oi := { dst := some 103, op := Op.call { callee := Callee.builtin Builtin.len, args := #[Operand.tmp 102], argTypes := #[23] }, type := 3, pos := _, after := #[{ on := 25, ground := Ground.data }, { on := 21, ground := Ground.guard }], guard := some (21, true) }) (v := undef) rfl (by kernel_rfl) (by kernel_rfl) (by kernel_rfl) (fun _ _ _ h => h) (Or.inr ⟨by rfl, rfl⟩) (by assumption) ?_
      try simp only [Act.put, List.setIfInBounds_toArray, List.set_cons_zero, List.set_cons_succ]
      refine wpAnyH_take (i := 27) (oi := { dst := some 104, op := Op.binOp BinOp.lss 3 (Operand.tmp 100) (Operand.tmp 103) 3, type := 4, pos := _, after := #[{ on := 23, ground := Ground.data }, { on := 26, ground := Ground.data }, { on := 21, ground := Ground.guard }], guard := some (21, true) }) (v := undef) rfl (by kernel_rfl) (by kernel_rfl) (by kernel_rfl) (fun _ _ _ h => h) (Or.inr ⟨by rfl, rfl⟩) (by assumption) ?_
      try simp only [Act.put, List.setIfInBounds_toArray, List.set_cons_zero, List.set_cons_succ]
      refine wpAnyH_take (i := 28) (oi := { dst := some 105, op := Op.pick (Operand.tmp 98) (Operand.tmp 104) (Operand.const (Value.bool false)), type := 4, pos := _, after := #[{ on := 21, ground := Ground.data }, { on := 27, ground := Ground.data }], guard := none }) (v := ?_) rfl (by kernel_rfl) (by kernel_rfl) (by kernel_rfl) (fun _ _ _ h => h) (Or.inl ⟨by rfl, ?_⟩) (by assumption) ?_
      rotate_left
      · intro wt hSw; (try dsimp only at hSw); have s0 := cellB hSw s0 z0; have g0 := cellB hSw g0 z1; have g1 := cellB hSw g1 z1; have g2 := cellB hSw g2 z1; have g3 := cellB hSw g3 z1; first | (go_simp; done) | (go_simp; with_reducible rfl) | (trace_state; fail)
      try simp only [Act.put, List.setIfInBounds_toArray, List.set_cons_zero, List.set_cons_succ]
      refine wpAnyH_take (i := 29) (oi := { dst := some 106, op := Op.move (Operand.tmp 105), type := 4, pos := _, after := #[{ on := 28, ground := Ground.data }, { on := 21, ground := Ground.chain }], guard := none }) (v := ?_) rfl (by kernel_rfl) (by kernel_rfl) (by kernel_rfl) (fun _ _ _ h => h) (Or.inl ⟨by rfl, ?_⟩) (by assumption) ?_
      rotate_left
      · intro wt hSw; (try dsimp only at hSw); have s0 := cellB hSw s0 z0; have g0 := cellB hSw g0 z1; have g1 := cellB hSw g1 z1; have g2 := cellB hSw g2 z1; have g3 := cellB hSw g3 z1; first | (go_simp; done) | (go_simp; with_reducible rfl) | (trace_state; fail)
      try simp only [Act.put, List.setIfInBounds_toArray, List.set_cons_zero, List.set_cons_succ]
      refine wpAnyH_take (i := 30) (oi := { dst := some 107, op := Op.fieldAddr 37 (Operand.tmp 2) 0, type := 0, pos := _, after := #[{ on := 29, ground := Ground.guard }], guard := some (29, true) }) (v := undef) rfl (by kernel_rfl) (by kernel_rfl) (by kernel_rfl) (fun _ _ _ h => h) (Or.inr ⟨by rfl, rfl⟩) (by assumption) ?_
      try simp only [Act.put, List.setIfInBounds_toArray, List.set_cons_zero, List.set_cons_succ]
      refine wpAnyH_take (i := 31) (oi := { dst := some 108, op := Op.load 23 (Operand.tmp 107), type := 23, pos := _, after := #[{ on := 30, ground := Ground.data }, { on := 29, ground := Ground.guard }], guard := some (29, true) }) (v := undef) rfl (by kernel_rfl) (by kernel_rfl) (by kernel_rfl) (fun _ _ _ h => h) (Or.inr ⟨by rfl, rfl⟩) (by assumption) ?_
      try simp only [Act.put, List.setIfInBounds_toArray, List.set_cons_zero, List.set_cons_succ]
      refine wpAnyH_take (i := 32) (oi := { dst := some 109, op := Op.fieldAddr 30 (Operand.tmp 3) 2, type := 0, pos := _, after := #[{ on := 29, ground := Ground.guard }], guard := some (29, true) }) (v := undef) rfl (by kernel_rfl) (by kernel_rfl) (by kernel_rfl) (fun _ _ _ h => h) (Or.inr ⟨by rfl, rfl⟩) (by assumption) ?_
      try simp only [Act.put, List.setIfInBounds_toArray, List.set_cons_zero, List.set_cons_succ]
      refine wpAnyH_take (i := 33) (oi := { dst := some 110, op := Op.load 3 (Operand.tmp 109), type := 3, pos := _, after := #[{ on := 32, ground := Ground.data }, { on := 29, ground := Ground.guard }], guard := some (29, true) }) (v := undef) rfl (by kernel_rfl) (by kernel_rfl) (by kernel_rfl) (fun _ _ _ h => h) (Or.inr ⟨by rfl, rfl⟩) (by assumption) ?_
      try simp only [Act.put, List.setIfInBounds_toArray, List.set_cons_zero, List.set_cons_succ]
      refine wpAnyH_take (i := 34) (oi := { dst := some 111, op := Op.indexAddr 23 (Operand.tmp 108) (Operand.tmp 110), type := 0, pos := _, after := #[{ on := 31, ground := Ground.data }, { on := 33, ground := Ground.data }, { on := 29, ground := Ground.guard }], guard := some (29, true) }) (v := undef) rfl (by kernel_rfl) (by kernel_rfl) (by kernel_rfl) (fun _ _ _ h => h) (Or.inr ⟨by rfl, rfl⟩) (by assumption) ?_
      try simp only [Act.put, List.setIfInBounds_toArray, List.set_cons_zero, List.set_cons_succ]
      refine wpAnyH_take (i := 35) (oi := { dst := some 112, op := Op.fieldAddr 45 (Operand.tmp 111) 2, type := 0, pos := _, after := #[{ on := 34, ground := Ground.data }, { on := 29, ground := Ground.guard }], guard := some (29, true) }) (v := undef) rfl (by kernel_rfl) (by kernel_rfl) (by kernel_rfl) (fun _ _ _ h => h) (Or.inr ⟨by rfl, rfl⟩) (by assumption) ?_
      try simp only [Act.put, List.setIfInBounds_toArray, List.set_cons_zero, List.set_cons_succ]
      refine wpAnyH_take (i := 36) (oi := { dst := some 113, op := Op.load 3 (Operand.tmp 112), type := 3, pos := _, after := #[{ on := 35, ground := Ground.data }, { on := 29, ground := Ground.guard }], guard := some (29, true) }) (v := undef) rfl (by kernel_rfl) (by kernel_rfl) (by kernel_rfl) (fun _ _ _ h => h) (Or.inr ⟨by rfl, rfl⟩) (by assumption) ?_
      try simp only [Act.put, List.setIfInBounds_toArray, List.set_cons_zero, List.set_cons_succ]
      refine wpAnyH_take (i := 37) (oi := { dst := some 114, op := Op.binOp BinOp.gtr 3 (Operand.tmp 113) (Operand.const (Value.int IntKind.i64 1)) 3, type := 4, pos := _, after := #[{ on := 36, ground := Ground.data }, { on := 29, ground := Ground.guard }], guard := some (29, true) }) (v := undef) rfl (by kernel_rfl) (by kernel_rfl) (by kernel_rfl) (fun _ _ _ h => h) (Or.inr ⟨by rfl, rfl⟩) (by assumption) ?_
      try simp only [Act.put, List.setIfInBounds_toArray, List.set_cons_zero, List.set_cons_succ]
      refine wpAnyH_take (i := 38) (oi := { dst := some 115, op := Op.fieldAddr 30 (Operand.tmp 3) 0, type := 0, pos := _, after := #[{ on := 29, ground := Ground.guard }], guard := some (29, true) }) (v := undef) rfl (by kernel_rfl) (by kernel_rfl) (by kernel_rfl) (fun _ _ _ h => h) (Or.inr ⟨by rfl, rfl⟩) (by assumption) ?_
      try simp only [Act.put, List.setIfInBounds_toArray, List.set_cons_zero, List.set_cons_succ]
      refine wpAnyH_take (i := 39) (oi := { dst := some 116, op := Op.load 3 (Operand.tmp 115), type := 3, pos := _, after := #[{ on := 38, ground := Ground.data }, { on := 29, ground := Ground.guard }], guard := some (29, true) }) (v := undef) rfl (by kernel_rfl) (by kernel_rfl) (by kernel_rfl) (fun _ _ _ h => h) (Or.inr ⟨by rfl, rfl⟩) (by assumption) ?_
      try simp only [Act.put, List.setIfInBounds_toArray, List.set_cons_zero, List.set_cons_succ]
      refine wpAnyH_take (i := 40) (oi := { dst := some 117, op := Op.binOp BinOp.eql 3 (Operand.tmp 116) (Operand.const (Value.int IntKind.i64 4)) 3, type := 4, pos := _, after := #[{ on := 39, ground := Ground.data }, { on := 29, ground := Ground.guard }], guard := some (29, true) }) (v := undef) rfl (by kernel_rfl) (by kernel_rfl) (by kernel_rfl) (fun _ _ _ h => h) (Or.inr ⟨by rfl, rfl⟩) (by assumption) ?_
      try simp only [Act.put, List.setIfInBounds_toArray, List.set_cons_zero, List.set_cons_succ]
      refine wpAnyH_take (i := 41) (oi := { dst := some 118, op := Op.binOp BinOp.eql 4 (Operand.tmp 114) (Operand.tmp 117) 4, type := 4, pos := _, after := #[{ on := 37, ground := Ground.data }, { on := 40, ground := Ground.data }, { on := 29, ground := Ground.guard }], guard := some (29, true) }) (v := undef) rfl (by kernel_rfl) (by kernel_rfl) (by kernel_rfl) (fun _ _ _ h => h) (Or.inr ⟨by rfl, rfl⟩) (by assumption) ?_
      try simp only [Act.put, List.setIfInBounds_toArray, List.set_cons_zero, List.set_cons_succ]
      refine wpAnyH_take (i := 42) (oi := { dst := some 119, op := Op.pick (Operand.tmp 106) (Operand.tmp 118) (Operand.const (Value.bool false)), type := 4, pos := _, after := #[{ on := 29, ground := Ground.data }, { on := 41, ground := Ground.data }], guard := none }) (v := ?_) rfl (by kernel_rfl) (by kernel_rfl) (by kernel_rfl) (fun _ _ _ h => h) (Or.inl ⟨by rfl, ?_⟩) (by assumption) ?_
      rotate_left
      · intro wt hSw; (try dsimp only at hSw); have s0 := cellB hSw s0 z0; have g0 := cellB hSw g0 z1; have g1 := cellB hSw g1 z1; have g2 := cellB hSw g2 z1; have g3 := cellB hSw g3 z1; first | (go_simp; done) | (go_simp; with_reducible rfl) | (trace_state; fail)
      try simp only [Act.put, List.setIfInBounds_toArray, List.set_cons_zero, List.set_cons_succ]
      refine wpAnyH_take (i := 43) (oi := { dst := some 120, op := Op.move (Operand.tmp 119), type := 4, pos := _, after := #[{ on := 42, ground := Ground.data }, { on := 29, ground := Ground.chain }], guard := none }) (v := ?_) rfl (by kernel_rfl) (by kernel_rfl) (by kernel_rfl) (fun _ _ _ h => h) (Or.inl ⟨by rfl, ?_⟩) (by assumption) ?_
      rotate_left
      · intro wt hSw; (try dsimp only at hSw); have s0 := cellB hSw s0 z0; have g0 := cellB hSw g0 z1; have g1 := cellB hSw g1 z1; have g2 := cellB hSw g2 z1; have g3 := cellB hSw g3 z1; first | (go_simp; done) | (go_simp; with_reducible rfl) | (trace_state; fail)
      try simp only [Act.put, List.setIfInBounds_toArray, List.set_cons_zero, List.set_cons_succ]
      refine wpAnyH_take (i := 44) (oi := { dst := some 121, op := Op.move (Operand.tmp 5), type := 3, pos := _, after := #[{ on := 43, ground := Ground.guard }], guard := some (43, true) }) (v := undef) rfl (by kernel_rfl) (by kernel_rfl) (by kernel_rfl) (fun _ _ _ h => h) (Or.inr ⟨by rfl, rfl⟩) (by assumption) ?_
      try simp only [Act.put, List.setIfInBounds_toArray, List.set_cons_zero, List.set_cons_succ]
      refine wpAnyH_take (i := 45) (oi := { dst := some 122, op := Op.binOp BinOp.eql 3 (Operand.tmp 121) (Operand.const (Value.int IntKind.i64 0)) 3, type := 4, pos := _, after := #[{ on := 44, ground := Ground.data }, { on := 43, ground := Ground.guard }], guard := some (43, true) }) (v := undef) rfl (by kernel_rfl) (by kernel_rfl) (by kernel_rfl) (fun _ _ _ h => h) (Or.inr ⟨by rfl, rfl⟩) (by assumption) ?_
      try simp only [Act.put, List.setIfInBounds_toArray, List.set_cons_zero, List.set_cons_succ]
      refine wpAnyH_take (i := 46) (oi := { dst := some 123, op := Op.move (Operand.tmp 122), type := 4, pos := _, after := #[{ on := 45, ground := Ground.data }, { on := 43, ground := Ground.chain }, { on := 43, ground := Ground.guard }], guard := some (43, true) }) (v := undef) rfl (by kernel_rfl) (by kernel_rfl) (by kernel_rfl) (fun _ _ _ h => h) (Or.inr ⟨by rfl, rfl⟩) (by assumption) ?_
      try simp only [Act.put, List.setIfInBounds_toArray, List.set_cons_zero, List.set_cons_succ]
      refine wpAnyH_take (i := 47) (oi := { dst := some 124, op := Op.move (Operand.tmp 6), type := 3, pos := _, after := #[{ on := 46, ground := Ground.guard }], guard := some (46, false) }) (v := undef) rfl (by kernel_rfl) (by kernel_rfl) (by kernel_rfl) (fun _ _ _ h => h) (Or.inr ⟨by rfl, rfl⟩) (by assumption) ?_
      try simp only [Act.put, List.setIfInBounds_toArray, List.set_cons_zero, List.set_cons_succ]
      refine wpAnyH_take (i := 48) (oi := { dst := some 125, op := Op.binOp BinOp.eql 3 (Operand.tmp 124) (Operand.const (Value.int IntKind.i64 2)) 3, type := 4, pos := _, after := #[{ on := 47, ground := Ground.data }, { on := 46, ground := Ground.guard }], guard := some (46, false) }) (v := undef) rfl (by kernel_rfl) (by kernel_rfl) (by kernel_rfl) (fun _ _ _ h => h) (Or.inr ⟨by rfl, rfl⟩) (by assumption) ?_
      try simp only [Act.put, List.setIfInBounds_toArray, List.set_cons_zero, List.set_cons_succ]
      refine wpAnyH_take (i := 49) (oi := { dst := some 126, op := Op.pick (Operand.tmp 123) (Operand.const (Value.bool true)) (Operand.tmp 125), type := 4, pos := _, after := #[{ on := 46, ground := Ground.data }, { on := 48, ground := Ground.data }, { on := 43, ground := Ground.guard }], guard := some (43, true) }) (v := undef) rfl (by kernel_rfl) (by kernel_rfl) (by kernel_rfl) (fun _ _ _ h => h) (Or.inr ⟨by rfl, rfl⟩) (by assumption) ?_
      try simp only [Act.put, List.setIfInBounds_toArray, List.set_cons_zero, List.set_cons_succ]
      refine wpAnyH_take (i := 50) (oi := { dst := some 127, op := Op.pick (Operand.tmp 120) (Operand.tmp 126) (Operand.const (Value.bool false)), type := 4, pos := _, after := #[{ on := 43, ground := Ground.data }, { on := 49, ground := Ground.data }], guard := none }) (v := ?_) rfl (by kernel_rfl) (by kernel_rfl) (by kernel_rfl) (fun _ _ _ h => h) (Or.inl ⟨by rfl, ?_⟩) (by assumption) ?_
      rotate_left
      · intro wt hSw; (try dsimp only at hSw); have s0 := cellB hSw s0 z0; have g0 := cellB hSw g0 z1; have g1 := cellB hSw g1 z1; have g2 := cellB hSw g2 z1; have g3 := cellB hSw g3 z1; first | (go_simp; done) | (go_simp; with_reducible rfl) | (trace_state; fail)
      try simp only [Act.put, List.setIfInBounds_toArray, List.set_cons_zero, List.set_cons_succ]
      refine wpAnyH_done (by kernel_rfl) ?_ _
      have HHw := Lib.hid (HB0.out.trans (hHeld.mono HB0.out.size))
      have s0 := cellB hHeld s0 z0
      have g2 := cellB hHeld g2 z1
      clear hHeld
      go_wp2_with fail
      refine (hK0 _).mono ?_; rintro r w2 ⟨rfl, rfl⟩
      go_wp2_with fail
      go_ret
      exact ⟨by rw [hres.out]; rfl, HHw.out⟩
    subst h0
    by_cases hm : m = 0
    case neg =>
      have em : (m == 0) = false := by simpa using hm
      have hres := Lib.hid (show leafT s ⟨2, 0, n, m, []⟩ = 0 by unfold leafT; simp [hm])
      clear hm
      go_enter Tryd.func11, Tryd.ntmps11
      go_upto_region 17 with fail
      rw [← HW0.out]
      refine wp_region_held_drew (S := (fun w' => Below W0.heap.size W0 w')) (by kernel_rfl) ?_ (fun hHeld => ?_)
      · (try dsimp only); first | assumption | exact Below.alloc hHeld hHeld.size _ | exact (Below.refl _ _).drew | exact Below.drew (Below.refl _ _) | exact Below_drewN _ _ _ | exact Below.refl _ _ | (trace_state; fail)
      refine wpAnyH_take (i := 0) (oi := { dst := some 77, op := Op.move (Operand.tmp 5), type := 3, pos := _, after := #[], guard := none }) (v := ?_) rfl (by kernel_rfl) (by kernel_rfl) (by kernel_rfl) (fun _ _ _ h => h) (Or.inl ⟨by rfl, ?_⟩) (by assumption) ?_
      rotate_left
      · intro wt hSw; (try dsimp only at hSw); have s0 := cellB hSw s0 z0; have g0 := cellB hSw g0 z1; have g1 := cellB hSw g1 z1; have g2 := cellB hSw g2 z1; have g3 := cellB hSw g3 z1; first | (go_simp; done) | (go_simp; with_reducible rfl) | (trace_state; fail)
      try simp only [Act.put, List.setIfInBounds_toArray, List.set_cons_zero, List.set_cons_succ]
      refine wpAnyH_take (i := 1) (oi := { dst := some 78, op := Op.fieldAddr 30 (Operand.tmp 3) 0, type := 0, pos := _, after := #[], guard := none }) (v := ?_) rfl (by kernel_rfl) (by kernel_rfl) (by kernel_rfl) (fun _ _ _ h => h) (Or.inl ⟨by rfl, ?_⟩) (by assumption) ?_
      rotate_left
      · intro wt hSw; (try dsimp only at hSw); have s0 := cellB hSw s0 z0; have g0 := cellB hSw g0 z1; have g1 := cellB hSw g1 z1; have g2 := cellB hSw g2 z1; have g3 := cellB hSw g3 z1; first | (go_simp; done) | (go_simp; with_reducible rfl) | (trace_state; fail)
      try simp only [Act.put, List.setIfInBounds_toArray, List.set_cons_zero, List.set_cons_succ]
      refine wpAnyH_take (i := 2) (oi := { dst := some 79, op := Op.load 3 (Operand.tmp 78), type := 3, pos := _, after := #[{ on := 1, ground := Ground.data }], guard := none }) (v := ?_) rfl (by kernel_rfl) (by kernel_rfl) (by kernel_rfl) (fun _ _ _ h => h) (Or.inl ⟨by rfl, ?_⟩) (by assumption) ?_
      rotate_left
      · intro wt hSw; (try dsimp only at hSw); have s0 := cellB hSw s0 z0; have g0 := cellB hSw g0 z1; have g1 := cellB hSw g1 z1; have g2 := cellB hSw g2 z1; have g3 := cellB hSw g3 z1; first | (go_simp; done) | (go_simp; with_reducible rfl) | (trace_state; fail)
      try simp only [Act.put, List.setIfInBounds_toArray, List.set_cons_zero, List.set_cons_succ]
      refine wpAnyH_take (i := 3) (oi := { dst := some 80, op := Op.binOp BinOp.sub 3 (Operand.tmp 79) (Operand.const (Value.int IntKind.i64 2)) 3, type := 3, pos := _, after := #[{ on := 2, ground := Ground.data }], guard := none }) (v := ?_) rfl (by kernel_rfl) (by kernel_rfl) (by kernel_rfl) (fun _ _ _ h => h) (Or.inl ⟨by rfl, ?_⟩) (by assumption) ?_
      rotate_left
      · intro wt hSw; (try dsimp only at hSw); have s0 := cellB hSw s0 z0; have g0 := cellB hSw g0 z1; have g1 := cellB hSw g1 z1; have g2 := cellB hSw g2 z1; have g3 := cellB hSw g3 z1; first | (go_simp; done) | (go_simp; with_reducible rfl) | (trace_state; fail)
      try simp only [Act.put, List.setIfInBounds_toArray, List.set_cons_zero, List.set_cons_succ]
      refine wpAnyH_take (i := 4) (oi := { dst := some 81, op := Op.binOp BinOp.quo 3 (Operand.tmp 80) (Operand.const (Value.int IntKind.i64 2)) 3, type := 3, pos := _, after := #[{ on := 3, ground := Ground.data }], guard := none }) (v := ?_) rfl (by kernel_rfl) (by kernel_rfl) (by kernel_rfl) (fun _ _ _ h => h) (Or.inl ⟨by rfl, ?_⟩) (by assumption) ?_
      rotate_left
      · intro wt hSw; (try dsimp only at hSw); have s0 := cellB hSw s0 z0; have g0 := cellB hSw g0 z1; have g1 := cellB hSw g1 z1; have g2 := cellB hSw g2 z1; have g3 := cellB hSw g3 z1; first | (go_simp; done) | (go_simp; with_reducible rfl) | (trace_state; fail)
      try simp only [Act.put, List.setIfInBounds_toArray, List.set_cons_zero, List.set_cons_succ]
      refine wpAnyH_take (i := 5) (oi := { dst := some 82, op := Op.binOp BinOp.eql 3 (Operand.tmp 77) (Operand.tmp 81) 3, type := 4, pos := _, after := #[{ on := 0, ground := Ground.data }, { on := 4, ground := Ground.data }], guard := none }) (v := ?_) rfl (by kernel_rfl) (by kernel_rfl) (by kernel_rfl) (fun _ _ _ h => h) (Or.inl ⟨by rfl, ?_⟩) (by assumption) ?_
      rotate_left
      · intro wt hSw; (try dsimp only at hSw); have s0 := cellB hSw s0 z0; have g0 := cellB hSw g0 z1; have g1 := cellB hSw g1 z1; have g2 := cellB hSw g2 z1; have g3 := cellB hSw g3 z1; first | (go_simp; done) | (go_simp; with_reducible rfl) | (trace_state; fail)
      try simp only [Act.put, List.setIfInBounds_toArray, List.set_cons_zero, List.set_cons_succ]
      refine wpAnyH_take (i := 6) (oi := { dst := some 83, op := Op.move (Operand.tmp 82), type := 4, pos := _, after := #[{ on := 5, ground := Ground.data }], guard := none }) (v := ?_) rfl (by kernel_rfl) (by kernel_rfl) (by kernel_rfl) (fun _ _ _ h => h) (Or.inl ⟨by rfl, ?_⟩) (by assumption) ?_
      rotate_left
      · intro wt hSw; (try dsimp only at hSw); have s0 := cellB hSw s0 z0; have g0 := cellB hSw g0 z1; have g1 := cellB hSw g1 z1; have g2 := cellB hSw g2 z1; have g3 := cellB hSw g3 z1; first | (go_simp; done) | (go_simp; with_reducible rfl) | (trace_state; fail)
      try simp only [Act.put, List.setIfInBounds_toArray, List.set_cons_zero, List.set_cons_succ]
      refine wpAnyH_take (i := 7) (oi := { dst := some 84, op := Op.fieldAddr 30 (Operand.tmp 3) 1, type := 0, pos := _, after := #[{ on := 6, ground := Ground.guard }], guard := some (6, true) }) (v := ?_) rfl (by kernel_rfl) (by kernel_rfl) (by kernel_rfl) (fun _ _ _ h => h) (Or.inl ⟨by rfl, ?_⟩) (by assumption) ?_
      rotate_left
      · intro wt hSw; (try dsimp only at hSw); have s0 := cellB hSw s0 z0; have g0 := cellB hSw g0 z1; have g1 := cellB hSw g1 z1; have g2 := cellB hSw g2 z1; have g3 := cellB hSw g3 z1; first | (go_simp; done) | (go_simp; with_reducible rfl) | (trace_state; fail)
      try simp only [Act.put, List.setIfInBounds_toArray, List.set_cons_zero, List.set_cons_succ]
      refine wpAnyH_take (i := 8) (oi := { dst := some 85, op := Op.load 3 (Operand.tmp 84), type := 3, pos := _, after := #[{ on := 7, ground := Ground.data }, { on := 6, ground := Ground.guard }], guard := some (6, true) }) (v := ?_) rfl (by kernel_rfl) (by kernel_rfl) (by kernel_rfl) (fun _ _ _ h => h) (Or.inl ⟨by rfl, ?_⟩) (by assumption) ?_
      rotate_left
      · intro wt hSw; (try dsimp only at hSw); have s0 := cellB hSw s0 z0; have g0 := cellB hSw g0 z1; have g1 := cellB hSw g1 z1; have g2 := cellB hSw g2 z1; have g3 := cellB hSw g3 z1; first | (go_simp; done) | (go_simp; with_reducible rfl) | (trace_state; fail)
      try simp only [Act.put, List.setIfInBounds_toArray, List.set_cons_zero, List.set_cons_succ]
      refine wpAnyH_take (i := 9) (oi := { dst := some 86, op := Op.binOp BinOp.eql 3 (Operand.tmp 85) (Operand.const (Value.int IntKind.i64 0)) 3, type := 4, pos := _, after := #[{ on := 8, ground := Ground.data }, { on := 6, ground := Ground.guard }], guard := some (6, true) }) (v := ?_) rfl (by kernel_rfl) (by kernel_rfl) (by kernel_rfl) (fun _ _ _ h => h) (Or.inl ⟨by rfl, ?_⟩) (by assumption) ?_
      rotate_left
      · intro wt hSw; (try dsimp only at hSw); have s0 := cellB hSw s0 z0; have g0 := cellB hSw g0 z1; have g1 := cellB hSw g1 z1; have g2 := cellB hSw g2 z1; have g3 := cellB hSw g3 z1; first | (go_simp; done) | (go_simp; with_reducible rfl) | (trace_state; fail)
      try simp only [Act.put, List.setIfInBounds_toArray, List.set_cons_zero, List.set_cons_succ]
      refine wpAnyH_take (i := 10) (oi := { dst := some 87, op := Op.pick (Operand.tmp 83) (Operand.tmp 86) (Operand.const (Value.bool false)), type := 4, pos := _, after := #[{ on := 6, ground := Ground.data }, { on := 9, ground := Ground.data }], guard := none }) (v := ?_) rfl (by kernel_rfl) (by kernel_rfl) (by kernel_rfl) (fun _ _ _ h => h) (Or.inl ⟨by rfl, ?_⟩) (by assumption) ?_
      rotate_left
      · intro wt hSw; (try dsimp only at hSw); have s0 := cellB hSw s0 z0; have g0 := cellB hSw g0 z1; have g1 := cellB hSw g1 z1; have g2 := cellB hSw g2 z1; have g3 := cellB hSw g3 z1; first | (go_simp; done) | (go_simp; with_reducible rfl) | (trace_state; fail)
      try simp only [Act.put, List.setIfInBounds_toArray, List.set_cons_zero, List.set_cons_succ]
      refine wpAnyH_take (i := 11) (oi := { dst := some 88, op := Op.move (Operand.tmp 87), type := 4, pos := _, after := #[{ on := 10, ground := Ground.data }, { on := 6, ground := Ground.chain }], guard := none }) (v := ?_) rfl (by kernel_rfl) (by kernel_rfl) (by kernel_rfl) (fun _ _ _ h => h) (Or.inl ⟨by rfl, ?_⟩) (by assumption) ?_
      rotate_left
      · intro wt hSw; (try dsimp only at hSw); have s0 := cellB hSw s0 z0; have g0 := cellB hSw g0 z1; have g1 := cellB hSw g1 z1; have g2 := cellB hSw g2 z1; have g3 := cellB hSw g3 z1; first | (go_simp; done) | (go_simp; with_reducible rfl) | (trace_state; fail)
      try simp only [Act.put, List.setIfInBounds_toArray, List.set_cons_zero, List.set_cons_succ]
      refine wpAnyH_take (i := 12) (oi := { dst := some 89, op := Op.fieldAddr 30 (Operand.tmp 3) 3, type := 0, pos := _, after := #[{ on := 11, ground := Ground.guard }], guard := some (11, true) }) (v := ?_) rfl (by kernel_rfl) (by kernel_rfl) (by kernel_rfl) (fun _ _ _ h => h) (Or.inl ⟨by rfl, ?_⟩) (by assumption) ?_
      rotate_left
      · intro wt hSw; (try dsimp only at hSw); have s0 := cellB hSw s0 z0; have g0 := cellB hSw g0 z1; have g1 := cellB hSw g1 z1; have g2 := cellB hSw g2 z1; have g3 := cellB hSw g3 z1; first | (go_simp; done) | (go_simp; with_reducible rfl) | (trace_state; fail)
      try simp only [Act.put, List.setIfInBounds_toArray, List.set_cons_zero, List.set_cons_succ]
      refine wpAnyH_take (i := 13) (oi := { dst := some 90, op := Op.load 3 (Operand.tmp 89), type := 3, pos := _, after := #[{ on := 12, ground := Ground.data }, { on := 11, ground := Ground.guard }], guard := some (11, true) }) (v := ?_) rfl (by kernel_rfl) (by kernel_rfl) (by kernel_rfl) (fun _ _ _ h => h) (Or.inl ⟨by rfl, ?_⟩) (by assumption) ?_
      rotate_left
      · intro wt hSw; (try dsimp only at hSw); have s0 := cellB hSw s0 z0; have g0 := cellB hSw g0 z1; have g1 := cellB hSw g1 z1; have g2 := cellB hSw g2 z1; have g3 := cellB hSw g3 z1; first | (go_simp; done) | (go_simp; with_reducible rfl) | (trace_state; fail)
      try simp only [Act.put, List.setIfInBounds_toArray, List.set_cons_zero, List.set_cons_succ]
      refine wpAnyH_take (i := 14) (oi := { dst := some 91, op := Op.binOp BinOp.eql 3 (Operand.tmp 90) (Operand.const (Value.int IntKind.i64 0)) 3, type := 4, pos := _, after := #[{ on := 13, ground := Ground.data }, { on := 11, ground := Ground.guard }], guard := some (11, true) }) (v := ?_) rfl (by kernel_rfl) (by kernel_rfl) (by kernel_rfl) (fun _ _ _ h => h) (Or.inl ⟨by rfl, ?_⟩) (by assumption) ?_
      rotate_left
      · intro wt hSw; (try dsimp only at hSw); have s0 := cellB hSw s0 z0; have g0 := cellB hSw g0 z1; have g1 := cellB hSw g1 z1; have g2 := cellB hSw g2 z1; have g3 := cellB hSw g3 z1; first | (go_simp; done) | (go_simp; with_reducible rfl) | (trace_state; fail)
      try simp only [Act.put, List.setIfInBounds_toArray, List.set_cons_zero, List.set_cons_succ]
      refine wpAnyH_take (i := 15) (oi := { dst := some 92, op := Op.pick (Operand.tmp 88) (Operand.tmp 91) (Operand.const (Value.bool false)), type := 4, pos := _, after := #[{ on := 11, ground := Ground.data }, { on := 14, ground := Ground.data }], guard := none }) (v := ?_) rfl (by kernel_rfl) (by kernel_rfl) (by kernel_rfl) (fun _ _ _ h => h) (Or.inl ⟨by rfl, ?_⟩) (by assumption) ?_
      rotate_left
      · intro wt hSw; (try dsimp only at hSw); have s0 := cellB hSw s0 z0; have g0 := cellB hSw g0 z1; have g1 := cellB hSw g1 z1; have g2 := cellB hSw g2 z1; have g3 := cellB hSw g3 z1; first | (go_simp; done) | (go_simp; with_reducible rfl) | (trace_state; fail)
      try simp only [Act.put, List.setIfInBounds_toArray, List.set_cons_zero, List.set_cons_succ]
      refine wpAnyH_take (i := 16) (oi := { dst := some 93, op := Op.move (Operand.tmp 92), type := 4, pos := _, after := #[{ on := 15, ground := Ground.data }, { on := 11, ground := Ground.chain }], guard := none }) (v := ?_) rfl (by kernel_rfl) (by kernel_rfl) (by kernel_rfl) (fun _ _ _ h => h) (Or.inl ⟨by rfl, ?_⟩) (by assumption) ?_
      rotate_left
      · intro wt hSw; (try dsimp only at hSw); have s0 := cellB hSw s0 z0; have g0 := cellB hSw g0 z1; have g1 := cellB hSw g1 z1; have g2 := cellB hSw g2 z1; have g3 := cellB hSw g3 z1; first | (go_simp; done) | (go_simp; with_reducible rfl) | (trace_state; fail)
      try simp only [Act.put, List.setIfInBounds_toArray, List.set_cons_zero, List.set_cons_succ]
      refine wpAnyH_take (i := 17) (oi := { dst := some 94, op := Op.fieldAddr 30 (Operand.tmp 3) 2, type := 0, pos := _, after := #[{ on := 16, ground := Ground.guard }], guard := some (16, true) }) (v := undef) rfl (by kernel_rfl) (by kernel_rfl) (by kernel_rfl) (fun _ _ _ h => h) (Or.inr ⟨by rfl, rfl⟩) (by assumption) ?_
      try simp only [Act.put, List.setIfInBounds_toArray, List.set_cons_zero, List.set_cons_succ]
      refine wpAnyH_take (i := 18) (oi := { dst := some 95, op := Op.load 3 (Operand.tmp 94), type := 3, pos := _, after := #[{ on := 17, ground := Ground.data }, { on := 16, ground := Ground.guard }], guard := some (16, true) }) (v := undef) rfl (by kernel_rfl) (by kernel_rfl) (by kernel_rfl) (fun _ _ _ h => h) (Or.inr ⟨by rfl, rfl⟩) (by assumption) ?_
      try simp only [Act.put, List.setIfInBounds_toArray, List.set_cons_zero, List.set_cons_succ]
      refine wpAnyH_take (i := 19) (oi := { dst := some 96, op := Op.binOp BinOp.geq 3 (Operand.tmp 95) (Operand.const (Value.int IntKind.i64 0)) 3, type := 4, pos := _, after := #[{ on := 18, ground := Ground.data }, { on := 16, ground := Ground.guard }], guard := some (16, true) }) (v := undef) rfl (by kernel_rfl) (by kernel_rfl) (by kernel_rfl) (fun _ _ _ h => h) (Or.inr ⟨by rfl, rfl⟩) (by assumption) ?_
      try simp only [Act.put, List.setIfInBounds_toArray, List.set_cons_zero, List.set_cons_succ]
      refine wpAnyH_take (i := 20) (oi := { dst := some 97, op := Op.pick (Operand.tmp 93) (Operand.tmp 96) (Operand.const (Value.bool false)), type := 4, pos := _, after := #[{ on := 16, ground := Ground.data }, { on := 19, ground := Ground.data }], guard := none }) (v := ?_) rfl (by kernel_rfl) (by kernel_rfl) (by kernel_rfl) (fun _ _ _ h => h) (Or.inl ⟨by rfl, ?_⟩) (by assumption) ?_
      rotate_left
      · intro wt hSw; (try dsimp only at hSw); have s0 := cellB hSw s0 z0; have g0 := cellB hSw g0 z1; have g1 := cellB hSw g1 z1; have g2 := cellB hSw g2 z1; have g3 := cellB hSw g3 z1; first | (go_simp; done) | (go_simp; with_reducible rfl) | (trace_state; fail)
      try simp only [Act.put, List.setIfInBounds_toArray, List.set_cons_zero, List.set_cons_succ]
      refine wpAnyH_take (i := 21) (oi := { dst := some 98, op := Op.move (Operand.tmp 97), type := 4, pos := _, after := #[{ on := 20, ground := Ground.data }, { on := 16, ground := Ground.chain }], guard := none }) (v := ?_) rfl (by kernel_rfl) (by kernel_rfl) (by kernel_rfl) (fun _ _ _ h => h) (Or.inl ⟨by rfl, ?_⟩) (by assumption) ?_
      rotate_left
      · intro wt hSw; (try dsimp only at hSw); have s0 := cellB hSw s0 z0; have g0 := cellB hSw g0 z1; have g1 := cellB hSw g1 z1; have g2 := cellB hSw g2 z1; have g3 := cellB hSw g3 z1; first | (go_simp; done) | (go_simp; with_reducible rfl) | (trace_state; fail)
      try simp only [Act.put, List.setIfInBounds_toArray, List.set_cons_zero, List.set_cons_succ]
      refine wpAnyH_take (i := 22) (oi := { dst := some 99, op := Op.fieldAddr 30 (Operand.tmp 3) 2, type := 0, pos := _, after := #[{ on := 21, ground := Ground.guard }], guard := some (21, true) }) (v := undef) rfl (by kernel_rfl) (by kernel_rfl) (by kernel_rfl) (fun _ _ _ h => h) (Or.inr ⟨by rfl, rfl⟩) (by assumption) ?_
      try simp only [Act.put, List.setIfInBounds_toArray, List.set_cons_zero, List.set_cons_succ]
      refine wpAnyH_take (i := 23) (oi := { dst := some 100, op := Op.load 3 (Operand.tmp 99), type := 3, pos := _, after := #[{ on := 22, ground := Ground.data }, { on := 21, ground := Ground.guard }], guard := some (21, true) }) (v := undef) rfl (by kernel_rfl) (by kernel_rfl) (by kernel_rfl) (fun _ _ _ h => h) (Or.inr ⟨by rfl, rfl⟩) (by assumption) ?_
      try simp only [Act.put, List.setIfInBounds_toArray, List.set_cons_zero, List.set_cons_succ]
      refine wpAnyH_take (i := 24) (oi := { dst := some 101, op := Op.fieldAddr 37 (Operand.tmp 2) 0, type := 0, pos := _, after := #[{ on := 21, ground := Ground.guard }], guard := some (21, true) }) (v := undef) rfl (by kernel_rfl) (by kernel_rfl) (by kernel_rfl) (fun _ _ _ h => h) (Or.inr ⟨by rfl, rfl⟩) (by assumption) ?_
      try simp only [Act.put, List.setIfInBounds_toArray, List.set_cons_zero, List.set_cons_succ]
      refine wpAnyH_take (i := 25) (oi := { dst := some 102, op := Op.load 23 (Operand.tmp 101), type := 23, pos := _, after := #[{ on := 24, ground := Ground.data }, { on := 21, ground := Ground.guard }], guard := some (21, true) }) (v := undef) rfl (by kernel_rfl) (by kernel_rfl) (by kernel_rfl) (fun _ _ _ h => h) (Or.inr ⟨by rfl, rfl⟩) (by assumption) ?_
      try simp only [Act.put, List.setIfInBounds_toArray, List.set_cons_zero, List.set_cons_succ]
      refine wpAnyH_take (i := 26) (oi := { dst := some 103, op := Op.call { callee := Callee.builtin Builtin.len, args := #[Operand.tmp 102], argTypes := #[23] }, type := 3, pos := _, after := #[{ on := 25, ground := Ground.data }, { on := 21, ground := Ground.guard }], guard := some (21, true) }) (v := undef) rfl (by kernel_rfl) (by kernel_rfl) (by kernel_rfl) (fun _ _ _ h => h) (Or.inr ⟨by rfl, rfl⟩) (by assumption) ?_
      try simp only [Act.put, List.setIfInBounds_toArray, List.set_cons_zero, List.set_cons_succ]
      refine wpAnyH_take (i := 27) (oi := { dst := some 104, op := Op.binOp BinOp.lss 3 (Operand.tmp 100) (Operand.tmp 103) 3, type := 4, pos := _, after := #[{ on := 23, ground := Ground.data }, { on := 26, ground := Ground.data }, { on := 21, ground := Ground.guard }], guard := some (21, true) }) (v := undef) rfl (by kernel_rfl) (by kernel_rfl) (by kernel_rfl) (fun _ _ _ h => h) (Or.inr ⟨by rfl, rfl⟩) (by assumption) ?_
      try simp only [Act.put, List.setIfInBounds_toArray, List.set_cons_zero, List.set_cons_succ]
      refine wpAnyH_take (i := 28) (oi := { dst := some 105, op := Op.pick (Operand.tmp 98) (Operand.tmp 104) (Operand.const (Value.bool false)), type := 4, pos := _, after := #[{ on := 21, ground := Ground.data }, { on := 27, ground := Ground.data }], guard := none }) (v := ?_) rfl (by kernel_rfl) (by kernel_rfl) (by kernel_rfl) (fun _ _ _ h => h) (Or.inl ⟨by rfl, ?_⟩) (by assumption) ?_
      rotate_left
      · intro wt hSw; (try dsimp only at hSw); have s0 := cellB hSw s0 z0; have g0 := cellB hSw g0 z1; have g1 := cellB hSw g1 z1; have g2 := cellB hSw g2 z1; have g3 := cellB hSw g3 z1; first | (go_simp; done) | (go_simp; with_reducible rfl) | (trace_state; fail)
      try simp only [Act.put, List.setIfInBounds_toArray, List.set_cons_zero, List.set_cons_succ]
      refine wpAnyH_take (i := 29) (oi := { dst := some 106, op := Op.move (Operand.tmp 105), type := 4, pos := _, after := #[{ on := 28, ground := Ground.data }, { on := 21, ground := Ground.chain }], guard := none }) (v := ?_) rfl (by kernel_rfl) (by kernel_rfl) (by kernel_rfl) (fun _ _ _ h => h) (Or.inl ⟨by rfl, ?_⟩) (by assumption) ?_
      rotate_left
      · intro wt hSw; (try dsimp only at hSw); have s0 := cellB hSw s0 z0; have g0 := cellB hSw g0 z1; have g1 := cellB hSw g1 z1; have g2 := cellB hSw g2 z1; have g3 := cellB hSw g3 z1; first | (go_simp; done) | (go_simp; with_reducible rfl) | (trace_state; fail)
      try simp only [Act.put, List.setIfInBounds_toArray, List.set_cons_zero, List.set_cons_succ]
      refine wpAnyH_take (i := 30) (oi := { dst := some 107, op := Op.fieldAddr 37 (Operand.tmp 2) 0, type := 0, pos := _, after := #[{ on := 29, ground := Ground.guard }], guard := some (29, true) }) (v := undef) rfl (by kernel_rfl) (by kernel_rfl) (by kernel_rfl) (fun _ _ _ h => h) (Or.inr ⟨by rfl, rfl⟩) (by assumption) ?_
      try simp only [Act.put, List.setIfInBounds_toArray, List.set_cons_zero, List.set_cons_succ]
      refine wpAnyH_take (i := 31) (oi := { dst := some 108, op := Op.load 23 (Operand.tmp 107), type := 23, pos := _, after := #[{ on := 30, ground := Ground.data }, { on := 29, ground := Ground.guard }], guard := some (29, true) }) (v := undef) rfl (by kernel_rfl) (by kernel_rfl) (by kernel_rfl) (fun _ _ _ h => h) (Or.inr ⟨by rfl, rfl⟩) (by assumption) ?_
      try simp only [Act.put, List.setIfInBounds_toArray, List.set_cons_zero, List.set_cons_succ]
      refine wpAnyH_take (i := 32) (oi := { dst := some 109, op := Op.fieldAddr 30 (Operand.tmp 3) 2, type := 0, pos := _, after := #[{ on := 29, ground := Ground.guard }], guard := some (29, true) }) (v := undef) rfl (by kernel_rfl) (by kernel_rfl) (by kernel_rfl) (fun _ _ _ h => h) (Or.inr ⟨by rfl, rfl⟩) (by assumption) ?_
      try simp only [Act.put, List.setIfInBounds_toArray, List.set_cons_zero, List.set_cons_succ]
      refine wpAnyH_take (i := 33) (oi := { dst := some 110, op := Op.load 3 (Operand.tmp 109), type := 3, pos := _, after := #[{ on := 32, ground := Ground.data }, { on := 29, ground := Ground.guard }], guard := some (29, true) }) (v := undef) rfl (by kernel_rfl) (by kernel_rfl) (by kernel_rfl) (fun _ _ _ h => h) (Or.inr ⟨by rfl, rfl⟩) (by assumption) ?_
      try simp only [Act.put, List.setIfInBounds_toArray, List.set_cons_zero, List.set_cons_succ]
      refine wpAnyH_take (i := 34) (oi := { dst := some 111, op := Op.indexAddr 23 (Operand.tmp 108) (Operand.tmp 110), type := 0, pos := _, after := #[{ on := 31, ground := Ground.data }, { on := 33, ground := Ground.data }, { on := 29, ground := Ground.guard }], guard := some (29, true) }) (v := undef) rfl (by kernel_rfl) (by kernel_rfl) (by kernel_rfl) (fun _ _ _ h => h) (Or.inr ⟨by rfl, rfl⟩) (by assumption) ?_
      try simp only [Act.put, List.setIfInBounds_toArray, List.set_cons_zero, List.set_cons_succ]
      refine wpAnyH_take (i := 35) (oi := { dst := some 112, op := Op.fieldAddr 45 (Operand.tmp 111) 2, type := 0, pos := _, after := #[{ on := 34, ground := Ground.data }, { on := 29, ground := Ground.guard }], guard := some (29, true) }) (v := undef) rfl (by kernel_rfl) (by kernel_rfl) (by kernel_rfl) (fun _ _ _ h => h) (Or.inr ⟨by rfl, rfl⟩) (by assumption) ?_
      try simp only [Act.put, List.setIfInBounds_toArray, List.set_cons_zero, List.set_cons_succ]
      refine wpAnyH_take (i := 36) (oi := { dst := some 113, op := Op.load 3 (Operand.tmp 112), type := 3, pos := _, after := #[{ on := 35, ground := Ground.data }, { on := 29, ground := Ground.guard }], guard := some (29, true) }) (v := undef) rfl (by kernel_rfl) (by kernel_rfl) (by kernel_rfl) (fun _ _ _ h => h) (Or.inr ⟨by rfl, rfl⟩) (by assumption) ?_
      try simp only [Act.put, List.setIfInBounds_toArray, List.set_cons_zero, List.set_cons_succ]
      refine wpAnyH_take (i := 37) (oi := { dst := some 114, op := Op.binOp BinOp.gtr 3 (Operand.tmp 113) (Operand.const (Value.int IntKind.i64 1)) 3, type := 4, pos := _, after := #[{ on := 36, ground := Ground.data }, { on := 29, ground := Ground.guard }], guard := some (29, true) }) (v := undef) rfl (by kernel_rfl) (by kernel_rfl) (by kernel_rfl) (fun _ _ _ h => h) (Or.inr ⟨by rfl, rfl⟩) (by assumption) ?_
      try simp only [Act.put, List.setIfInBounds_toArray, List.set_cons_zero, List.set_cons_succ]
      refine wpAnyH_take (i := 38) (oi := { dst := some 115, op := Op.fieldAddr 30 (Operand.tmp 3) 0, type := 0, pos := _, after := #[{ on := 29, ground := Ground.guard }], guard := some (29, true) }) (v := undef) rfl (by kernel_rfl) (by kernel_rfl) (by kernel_rfl) (fun _ _ _ h => h) (Or.inr ⟨by rfl, rfl⟩) (by assumption) ?_
      try simp only [Act.put, List.setIfInBounds_toArray, List.set_cons_zero, List.set_cons_succ]
      refine wpAnyH_take (i := 39) (oi := { dst := some 116, op := Op.load 3 (Operand.tmp 115), type := 3, pos := _, after := #[{ on := 38, ground := Ground.data }, { on := 29, ground := Ground.guard }], guard := some (29, true) }) (v := undef) rfl (by kernel_rfl) (by kernel_rfl) (by kernel_rfl) (fun _ _ _ h => h) (Or.inr ⟨by rfl, rfl⟩) (by assumption) ?_
      try simp only [Act.put, List.setIfInBounds_toArray, List.set_cons_zero, List.set_cons_succ]
      refine wpAnyH_take (i := 40) (oi := { dst := some 117, op := Op.binOp BinOp.eql 3 (Operand.tmp 116) (Operand.const (Value.int IntKind.i64 4)) 3, type := 4, pos := _, after := #[{ on := 39, ground := Ground.data }, { on := 29, ground := Ground.guard }], guard := some (29, true) }) (v := undef) rfl (by kernel_rfl) (by kernel_rfl) (by kernel_rfl) (fun _ _ _ h => h) (Or.inr ⟨by rfl, rfl⟩) (by assumption) ?_
      try simp only [Act.put, List.setIfInBounds_toArray, List.set_cons_zero, List.set_cons_succ]
      refine wpAnyH_take (i := 41) (oi := { dst := some 118, op := Op.binOp BinOp.eql 4 (Operand.tmp 114) (Operand.tmp 117) 4, type := 4, pos := _, after := #[{ on := 37, ground := Ground.data }, { on := 40, ground := Ground.data }, { on := 29, ground := Ground.guard }], guard := some (29, true) }) (v := undef) rfl (by kernel_rfl) (by kernel_rfl) (by kernel_rfl) (fun _ _ _ h => h) (Or.inr ⟨by rfl, rfl⟩) (by assumption) ?_
      try simp only [Act.put, List.setIfInBounds_toArray, List.set_cons_zero, List.set_cons_succ]
      refine wpAnyH_take (i := 42) (oi := { dst := some 119, op := Op.pick (Operand.tmp 106) (Operand.tmp 118) (Operand.const (Value.bool false)), type := 4, pos := _, after := #[{ on := 29, ground := Ground.data }, { on := 41, ground := Ground.data }], guard := none }) (v := ?_) rfl (by kernel_rfl) (by kernel_rfl) (by kernel_rfl) (fun _ _ _ h => h) (Or.inl ⟨by rfl, ?_⟩) (by assumption) ?_
      rotate_left
      · intro wt hSw; (try dsimp only at hSw); have s0 := cellB hSw s0 z0; have g0 := cellB hSw g0 z1; have g1 := cellB hSw g1 z1; have g2 := cellB hSw g2 z1; have g3 := cellB hSw g3 z1; first | (go_simp; done) | (go_simp; with_reducible rfl) | (trace_state; fail)
      try simp only [Act.put, List.setIfInBounds_toArray, List.set_cons_zero, List.set_cons_succ]
      refine wpAnyH_take (i := 43) (oi := { dst := some 120, op := Op.move (Operand.tmp 119), type := 4, pos := _, after := #[{ on := 42, ground := Ground.data }, { on := 29, ground := Ground.chain }], guard := none }) (v := ?_) rfl (by kernel_rfl) (by kernel_rfl) (by kernel_rfl) (fun _ _ _ h => h) (Or.inl ⟨by rfl, ?_⟩) (by assumption) ?_
      rotate_left
      · intro wt hSw; (try dsimp only at hSw); have s0 := cellB hSw s0 z0; have g0 := cellB hSw g0 z1; have g1 := cellB hSw g1 z1; have g2 := cellB hSw g2 z1; have g3 := cellB hSw g3 z1; first | (go_simp; done) | (go_simp; with_reducible rfl) | (trace_state; fail)
      try simp only [Act.put, List.setIfInBounds_toArray, List.set_cons_zero, List.set_cons_succ]
      refine wpAnyH_take (i := 44) (oi := { dst := some 121, op := Op.move (Operand.tmp 5), type := 3, pos := _, after := #[{ on := 43, ground := Ground.guard }], guard := some (43, true) }) (v := undef) rfl (by kernel_rfl) (by kernel_rfl) (by kernel_rfl) (fun _ _ _ h => h) (Or.inr ⟨by rfl, rfl⟩) (by assumption) ?_
      try simp only [Act.put, List.setIfInBounds_toArray, List.set_cons_zero, List.set_cons_succ]
      refine wpAnyH_take (i := 45) (oi := { dst := some 122, op := Op.binOp BinOp.eql 3 (Operand.tmp 121) (Operand.const (Value.int IntKind.i64 0)) 3, type := 4, pos := _, after := #[{ on := 44, ground := Ground.data }, { on := 43, ground := Ground.guard }], guard := some (43, true) }) (v := undef) rfl (by kernel_rfl) (by kernel_rfl) (by kernel_rfl) (fun _ _ _ h => h) (Or.inr ⟨by rfl, rfl⟩) (by assumption) ?_
      try simp only [Act.put, List.setIfInBounds_toArray, List.set_cons_zero, List.set_cons_succ]
      refine wpAnyH_take (i := 46) (oi := { dst := some 123, op := Op.move (Operand.tmp 122), type := 4, pos := _, after := #[{ on := 45, ground := Ground.data }, { on := 43, ground := Ground.chain }, { on := 43, ground := Ground.guard }], guard := some (43, true) }) (v := undef) rfl (by kernel_rfl) (by kernel_rfl) (by kernel_rfl) (fun _ _ _ h => h) (Or.inr ⟨by rfl, rfl⟩) (by assumption) ?_
      try simp only [Act.put, List.setIfInBounds_toArray, List.set_cons_zero, List.set_cons_succ]
      refine wpAnyH_take (i := 47) (oi := { dst := some 124, op := Op.move (Operand.tmp 6), type := 3, pos := _, after := #[{ on := 46, ground := Ground.guard }], guard := some (46, false) }) (v := undef) rfl (by kernel_rfl) (by kernel_rfl) (by kernel_rfl) (fun _ _ _ h => h) (Or.inr ⟨by rfl, rfl⟩) (by assumption) ?_
      try simp only [Act.put, List.setIfInBounds_toArray, List.set_cons_zero, List.set_cons_succ]
      refine wpAnyH_take (i := 48) (oi := { dst := some 125, op := Op.binOp BinOp.eql 3 (Operand.tmp 124) (Operand.const (Value.int IntKind.i64 2)) 3, type := 4, pos := _, after := #[{ on := 47, ground := Ground.data }, { on := 46, ground := Ground.guard }], guard := some (46, false) }) (v := undef) rfl (by kernel_rfl) (by kernel_rfl) (by kernel_rfl) (fun _ _ _ h => h) (Or.inr ⟨by rfl, rfl⟩) (by assumption) ?_
      try simp only [Act.put, List.setIfInBounds_toArray, List.set_cons_zero, List.set_cons_succ]
      refine wpAnyH_take (i := 49) (oi := { dst := some 126, op := Op.pick (Operand.tmp 123) (Operand.const (Value.bool true)) (Operand.tmp 125), type := 4, pos := _, after := #[{ on := 46, ground := Ground.data }, { on := 48, ground := Ground.data }, { on := 43, ground := Ground.guard }], guard := some (43, true) }) (v := undef) rfl (by kernel_rfl) (by kernel_rfl) (by kernel_rfl) (fun _ _ _ h => h) (Or.inr ⟨by rfl, rfl⟩) (by assumption) ?_
      try simp only [Act.put, List.setIfInBounds_toArray, List.set_cons_zero, List.set_cons_succ]
      refine wpAnyH_take (i := 50) (oi := { dst := some 127, op := Op.pick (Operand.tmp 120) (Operand.tmp 126) (Operand.const (Value.bool false)), type := 4, pos := _, after := #[{ on := 43, ground := Ground.data }, { on := 49, ground := Ground.data }], guard := none }) (v := ?_) rfl (by kernel_rfl) (by kernel_rfl) (by kernel_rfl) (fun _ _ _ h => h) (Or.inl ⟨by rfl, ?_⟩) (by assumption) ?_
      rotate_left
      · intro wt hSw; (try dsimp only at hSw); have s0 := cellB hSw s0 z0; have g0 := cellB hSw g0 z1; have g1 := cellB hSw g1 z1; have g2 := cellB hSw g2 z1; have g3 := cellB hSw g3 z1; first | (go_simp; done) | (go_simp; with_reducible rfl) | (trace_state; fail)
      try simp only [Act.put, List.setIfInBounds_toArray, List.set_cons_zero, List.set_cons_succ]
      refine wpAnyH_done (by kernel_rfl) ?_ _
      have HHw := Lib.hid (HB0.out.trans (hHeld.mono HB0.out.size))
      have s0 := cellB hHeld s0 z0
      have g2 := cellB hHeld g2 z1
      clear hHeld
      go_wp2_with fail
      refine (hK0 _).mono ?_; rintro r w2 ⟨rfl, rfl⟩
      go_wp2_with fail
      go_ret
      exact ⟨by rw [hres.out]; rfl, HHw.out⟩
    subst hm
    by_cases hn : 0 ≤ n
    case neg =>
      have en : (0 ≤ n) = False := eq_false hn
      have hin : inb n NV = false := decide_eq_false (fun h => hn h.1)
      have hres := Lib.hid (show leafT s ⟨2, 0, n, 0, []⟩ = 0 by unfold leafT; simp [HNV.out, hin])
      clear hn hin
      go_enter Tryd.func11, Tryd.ntmps11
      go_upto_region 17 with fail
      rw [← HW0.out]
      refine wp_region_held_drew (S := (fun w' => Below W0.heap.size W0 w')) (by kernel_rfl) ?_ (fun hHeld => ?_)
      · (try dsimp only); first | assumption | exact Below.alloc hHeld hHeld.size _ | exact (Below.refl _ _).drew | exact Below.drew (Below.refl _ _) | exact Below_drewN _ _ _ | exact Below.refl _ _ | (trace_state; fail)
      refine wpAnyH_take (i := 0) (oi := { dst := some 77, op := Op.move (Operand.tmp 5), type := 3, pos := _, after := #[], guard := none }) (v := ?_) rfl (by kernel_rfl) (by kernel_rfl) (by kernel_rfl) (fun _ _ _ h => h) (Or.inl ⟨by rfl, ?_⟩) (by assumption) ?_
      rotate_left
      · intro wt hSw; (try dsimp only at hSw); have s0 := cellB hSw s0 z0; have g0 := cellB hSw g0 z1; have g1 := cellB hSw g1 z1; have g2 := cellB hSw g2 z1; have g3 := cellB hSw g3 z1; first | (go_simp; done) | (go_simp; with_reducible rfl) | (trace_state; fail)
      try simp only [Act.put, List.setIfInBounds_toArray, List.set_cons_zero, List.set_cons_succ]
      refine wpAnyH_take (i := 1) (oi := { dst := some 78, op := Op.fieldAddr 30 (Operand.tmp 3) 0, type := 0, pos := _, after := #[], guard := none }) (v := ?_) rfl (by kernel_rfl) (by kernel_rfl) (by kernel_rfl) (fun _ _ _ h => h) (Or.inl ⟨by rfl, ?_⟩) (by assumption) ?_
      rotate_left
      · intro wt hSw; (try dsimp only at hSw); have s0 := cellB hSw s0 z0; have g0 := cellB hSw g0 z1; have g1 := cellB hSw g1 z1; have g2 := cellB hSw g2 z1; have g3 := cellB hSw g3 z1; first | (go_simp; done) | (go_simp; with_reducible rfl) | (trace_state; fail)
      try simp only [Act.put, List.setIfInBounds_toArray, List.set_cons_zero, List.set_cons_succ]
      refine wpAnyH_take (i := 2) (oi := { dst := some 79, op := Op.load 3 (Operand.tmp 78), type := 3, pos := _, after := #[{ on := 1, ground := Ground.data }], guard := none }) (v := ?_) rfl (by kernel_rfl) (by kernel_rfl) (by kernel_rfl) (fun _ _ _ h => h) (Or.inl ⟨by rfl, ?_⟩) (by assumption) ?_
      rotate_left
      · intro wt hSw; (try dsimp only at hSw); have s0 := cellB hSw s0 z0; have g0 := cellB hSw g0 z1; have g1 := cellB hSw g1 z1; have g2 := cellB hSw g2 z1; have g3 := cellB hSw g3 z1; first | (go_simp; done) | (go_simp; with_reducible rfl) | (trace_state; fail)
      try simp only [Act.put, List.setIfInBounds_toArray, List.set_cons_zero, List.set_cons_succ]
      refine wpAnyH_take (i := 3) (oi := { dst := some 80, op := Op.binOp BinOp.sub 3 (Operand.tmp 79) (Operand.const (Value.int IntKind.i64 2)) 3, type := 3, pos := _, after := #[{ on := 2, ground := Ground.data }], guard := none }) (v := ?_) rfl (by kernel_rfl) (by kernel_rfl) (by kernel_rfl) (fun _ _ _ h => h) (Or.inl ⟨by rfl, ?_⟩) (by assumption) ?_
      rotate_left
      · intro wt hSw; (try dsimp only at hSw); have s0 := cellB hSw s0 z0; have g0 := cellB hSw g0 z1; have g1 := cellB hSw g1 z1; have g2 := cellB hSw g2 z1; have g3 := cellB hSw g3 z1; first | (go_simp; done) | (go_simp; with_reducible rfl) | (trace_state; fail)
      try simp only [Act.put, List.setIfInBounds_toArray, List.set_cons_zero, List.set_cons_succ]
      refine wpAnyH_take (i := 4) (oi := { dst := some 81, op := Op.binOp BinOp.quo 3 (Operand.tmp 80) (Operand.const (Value.int IntKind.i64 2)) 3, type := 3, pos := _, after := #[{ on := 3, ground := Ground.data }], guard := none }) (v := ?_) rfl (by kernel_rfl) (by kernel_rfl) (by kernel_rfl) (fun _ _ _ h => h) (Or.inl ⟨by rfl, ?_⟩) (by assumption) ?_
      rotate_left
      · intro wt hSw; (try dsimp only at hSw); have s0 := cellB hSw s0 z0; have g0 := cellB hSw g0 z1; have g1 := cellB hSw g1 z1; have g2 := cellB hSw g2 z1; have g3 := cellB hSw g3 z1; first | (go_simp; done) | (go_simp; with_reducible rfl) | (trace_state; fail)
      try simp only [Act.put, List.setIfInBounds_toArray, List.set_cons_zero, List.set_cons_succ]
      refine wpAnyH_take (i := 5) (oi := { dst := some 82, op := Op.binOp BinOp.eql 3 (Operand.tmp 77) (Operand.tmp 81) 3, type := 4, pos := _, after := #[{ on := 0, ground := Ground.data }, { on := 4, ground := Ground.data }], guard := none }) (v := ?_) rfl (by kernel_rfl) (by kernel_rfl) (by kernel_rfl) (fun _ _ _ h => h) (Or.inl ⟨by rfl, ?_⟩) (by assumption) ?_
      rotate_left
      · intro wt hSw; (try dsimp only at hSw); have s0 := cellB hSw s0 z0; have g0 := cellB hSw g0 z1; have g1 := cellB hSw g1 z1; have g2 := cellB hSw g2 z1; have g3 := cellB hSw g3 z1; first | (go_simp; done) | (go_simp; with_reducible rfl) | (trace_state; fail)
      try simp only [Act.put, List.setIfInBounds_toArray, List.set_cons_zero, List.set_cons_succ]
      refine wpAnyH_take (i := 6) (oi := { dst := some 83, op := Op.move (Operand.tmp 82), type := 4, pos := _, after := #[{ on := 5, ground := Ground.data }], guard := none }) (v := ?_) rfl (by kernel_rfl) (by kernel_rfl) (by kernel_rfl) (fun _ _ _ h => h) (Or.inl ⟨by rfl, ?_⟩) (by assumption) ?_
      rotate_left
      · intro wt hSw; (try dsimp only at hSw); have s0 := cellB hSw s0 z0; have g0 := cellB hSw g0 z1; have g1 := cellB hSw g1 z1; have g2 := cellB hSw g2 z1; have g3 := cellB hSw g3 z1; first | (go_simp; done) | (go_simp; with_reducible rfl) | (trace_state; fail)
      try simp only [Act.put, List.setIfInBounds_toArray, List.set_cons_zero, List.set_cons_succ]
      refine wpAnyH_take (i := 7) (oi := { dst := some 84, op := Op.fieldAddr 30 (Operand.tmp 3) 1, type := 0, pos := _, after := #[{ on := 6, ground := Ground.guard }], guard := some (6, true) }) (v := ?_) rfl (by kernel_rfl) (by kernel_rfl) (by kernel_rfl) (fun _ _ _ h => h) (Or.inl ⟨by rfl, ?_⟩) (by assumption) ?_
      rotate_left
      · intro wt hSw; (try dsimp only at hSw); have s0 := cellB hSw s0 z0; have g0 := cellB hSw g0 z1; have g1 := cellB hSw g1 z1; have g2 := cellB hSw g2 z1; have g3 := cellB hSw g3 z1; first | (go_simp; done) | (go_simp; with_reducible rfl) | (trace_state; fail)
      try simp only [Act.put, List.setIfInBounds_toArray, List.set_cons_zero, List.set_cons_succ]
      refine wpAnyH_take (i := 8) (oi := { dst := some 85, op := Op.load 3 (Operand.tmp 84), type := 3, pos := _, after := #[{ on := 7, ground := Ground.data }, { on := 6, ground := Ground.guard }], guard := some (6, true) }) (v := ?_) rfl (by kernel_rfl) (by kernel_rfl) (by kernel_rfl) (fun _ _ _ h => h) (Or.inl ⟨by rfl, ?_⟩) (by assumption) ?_
      rotate_left
      · intro wt hSw; (try dsimp only at hSw); have s0 := cellB hSw s0 z0; have g0 := cellB hSw g0 z1; have g1 := cellB hSw g1 z1; have g2 := cellB hSw g2 z1; have g3 := cellB hSw g3 z1; first | (go_simp; done) | (go_simp; with_reducible rfl) | (trace_state; fail)
      try simp only [Act.put, List.setIfInBounds_toArray, List.set_cons_zero, List.set_cons_succ]
      refine wpAnyH_take (i := 9) (oi := { dst := some 86, op := Op.binOp BinOp.eql 3 (Operand.tmp 85) (Operand.const (Value.int IntKind.i64 0)) 3, type := 4, pos := _, after := #[{ on := 8, ground := Ground.data }, { on := 6, ground := Ground.guard }], guard := some (6, true) }) (v := ?_) rfl (by kernel_rfl) (by kernel_rfl) (by kernel_rfl) (fun _ _ _ h => h) (Or.inl ⟨by rfl, ?_⟩) (by assumption) ?_
      rotate_left
      · intro wt hSw; (try dsimp only at hSw); have s0 := cellB hSw s0 z0; have g0 := cellB hSw g0 z1; have g1 := cellB hSw g1 z1; have g2 := cellB hSw g2 z1; have g3 := cellB hSw g3 z1; first | (go_simp; done) | (go_simp; with_reducible rfl) | (trace_state; fail)
      try simp only [Act.put, List.setIfInBounds_toArray, List.set_cons_zero, List.set_cons_succ]
      refine wpAnyH_take (i := 10) (oi := { dst := some 87, op := Op.pick (Operand.tmp 83) (Operand.tmp 86) (Operand.const (Value.bool false)), type := 4, pos := _, after := #[{ on := 6, ground := Ground.data }, { on := 9, ground := Ground.data }], guard := none }) (v := ?_) rfl (by kernel_rfl) (by kernel_rfl) (by kernel_rfl) (fun _ _ _ h => h) (Or.inl ⟨by rfl, ?_⟩) (by assumption) ?_
      rotate_left
      · intro wt hSw; (try dsimp only at hSw); have s0 := cellB hSw s0 z0; have g0 := cellB hSw g0 z1; have g1 := cellB hSw g1 z1; have g2 := cellB hSw g2 z1; have g3 := cellB hSw g3 z1; first | (go_simp; done) | (go_simp; with_reducible rfl) | (trace_state; fail)
      try simp only [Act.put, List.setIfInBounds_toArray, List.set_cons_zero, List.set_cons_succ]
      refine wpAnyH_take (i := 11) (oi := { dst := some 88, op := Op.move (Operand.tmp 87), type := 4, pos := _, after := #[{ on := 10, ground := Ground.data }, { on := 6, ground := Ground.chain }], guard := none }) (v := ?_) rfl (by kernel_rfl) (by kernel_rfl) (by kernel_rfl) (fun _ _ _ h => h) (Or.inl ⟨by rfl, ?_⟩) (by assumption) ?_
      rotate_left
      · intro wt hSw; (try dsimp only at hSw); have s0 := cellB hSw s0 z0; have g0 := cellB hSw g0 z1; have g1 := cellB hSw g1 z1; have g2 := cellB hSw g2 z1; have g3 := cellB hSw g3 z1; first | (go_simp; done) | (go_simp; with_reducible rfl) | (trace_state; fail)
      try simp only [Act.put, List.setIfInBounds_toArray, List.set_cons_zero, List.set_cons_succ]
      refine wpAnyH_take (i := 12) (oi := { dst := some 89, op := Op.fieldAddr 30 (Operand.tmp 3) 3, type := 0, pos := _, after := #[{ on := 11, ground := Ground.guard }], guard := some (11, true) }) (v := ?_) rfl (by kernel_rfl) (by kernel_rfl) (by kernel_rfl) (fun _ _ _ h => h) (Or.inl ⟨by rfl, ?_⟩) (by assumption) ?_
      rotate_left
      · intro wt hSw; (try dsimp only at hSw); have s0 := cellB hSw s0 z0; have g0 := cellB hSw g0 z1; have g1 := cellB hSw g1 z1; have g2 := cellB hSw g2 z1; have g3 := cellB hSw g3 z1; first | (go_simp; done) | (go_simp; with_reducible rfl) | (trace_state; fail)
      try simp only [Act.put, List.setIfInBounds_toArray, List.set_cons_zero, List.set_cons_succ]
      refine wpAnyH_take (i := 13) (oi := { dst := some 90, op := Op.load 3 (Operand.tmp 89), type := 3, pos := _, after := #[{ on := 12, ground := Ground.data }, { on := 11, ground := Ground.guard }], guard := some (11, true) }) (v := ?_) rfl (by kernel_rfl) (by kernel_rfl) (by kernel_rfl) (fun _ _ _ h => h) (Or.inl ⟨by rfl, ?_⟩) (by assumption) ?_
      rotate_left
      · intro wt hSw; (try dsimp only at hSw); have s0 := cellB hSw s0 z0; have g0 := cellB hSw g0 z1; have g1 := cellB hSw g1 z1; have g2 := cellB hSw g2 z1; have g3 := cellB hSw g3 z1; first | (go_simp; done) | (go_simp; with_reducible rfl) | (trace_state; fail)
      try simp only [Act.put, List.setIfInBounds_toArray, List.set_cons_zero, List.set_cons_succ]
      refine wpAnyH_take (i := 14) (oi := { dst := some 91, op := Op.binOp BinOp.eql 3 (Operand.tmp 90) (Operand.const (Value.int IntKind.i64 0)) 3, type := 4, pos := _, after := #[{ on := 13, ground := Ground.data }, { on := 11, ground := Ground.guard }], guard := some (11, true) }) (v := ?_) rfl (by kernel_rfl) (by kernel_rfl) (by kernel_rfl) (fun _ _ _ h => h) (Or.inl ⟨by rfl, ?_⟩) (by assumption) ?_
      rotate_left
      · intro wt hSw; (try dsimp only at hSw); have s0 := cellB hSw s0 z0; have g0 := cellB hSw g0 z1; have g1 := cellB hSw g1 z1; have g2 := cellB hSw g2 z1; have g3 := cellB hSw g3 z1; first | (go_simp; done) | (go_simp; with_reducible rfl) | (trace_state; fail)
      try simp only [Act.put, List.setIfInBounds_toArray, List.set_cons_zero, List.set_cons_succ]
      refine wpAnyH_take (i := 15) (oi := { dst := some 92, op := Op.pick (Operand.tmp 88) (Operand.tmp 91) (Operand.const (Value.bool false)), type := 4, pos := _, after := #[{ on := 11, ground := Ground.data }, { on := 14, ground := Ground.data }], guard := none }) (v := ?_) rfl (by kernel_rfl) (by kernel_rfl) (by kernel_rfl) (fun _ _ _ h => h) (Or.inl ⟨by rfl, ?_⟩) (by assumption) ?_
      rotate_left
      · intro wt hSw; (try dsimp only at hSw); have s0 := cellB hSw s0 z0; have g0 := cellB hSw g0 z1; have g1 := cellB hSw g1 z1; have g2 := cellB hSw g2 z1; have g3 := cellB hSw g3 z1; first | (go_simp; done) | (go_simp; with_reducible rfl) | (trace_state; fail)
      try simp only [Act.put, List.setIfInBounds_toArray, List.set_cons_zero, List.set_cons_succ]
      refine wpAnyH_take (i := 16) (oi := { dst := some 93, op := Op.move (Operand.tmp 92), type := 4, pos := _, after := #[{ on := 15, ground := Ground.data }, { on := 11, ground := Ground.chain }], guard := none }) (v := ?_) rfl (by kernel_rfl) (by kernel_rfl) (by kernel_rfl) (fun _ _ _ h => h) (Or.inl ⟨by rfl, ?_⟩) (by assumption) ?_
      rotate_left
      · intro wt hSw; (try dsimp only at hSw); have s0 := cellB hSw s0 z0; have g0 := cellB hSw g0 z1; have g1 := cellB hSw g1 z1; have g2 := cellB hSw g2 z1; have g3 := cellB hSw g3 z1; first | (go_simp; done) | (go_simp; with_reducible rfl) | (trace_state; fail)
      try simp only [Act.put, List.setIfInBounds_toArray, List.set_cons_zero, List.set_cons_succ]
      refine wpAnyH_take (i := 17) (oi := { dst := some 94, op := Op.fieldAddr 30 (Operand.tmp 3) 2, type := 0, pos := _, after := #[{ on := 16, ground := Ground.guard }], guard := some (16, true) }) (v := ?_) rfl (by kernel_rfl) (by kernel_rfl) (by kernel_rfl) (fun _ _ _ h => h) (Or.inl ⟨by rfl, ?_⟩) (by assumption) ?_
      rotate_left
      · intro wt hSw; (try dsimp only at hSw); have s0 := cellB hSw s0 z0; have g0 := cellB hSw g0 z1; have g1 := cellB hSw g1 z1; have g2 := cellB hSw g2 z1; have g3 := cellB hSw g3 z1; first | (go_simp; done) | (go_simp; with_reducible rfl) | (trace_state; fail)
      try simp only [Act.put, List.setIfInBounds_toArray, List.set_cons_zero, List.set_cons_succ]
      refine wpAnyH_take (i := 18) (oi := { dst := some 95, op := Op.load 3 (Operand.tmp 94), type := 3, pos := _, after := #[{ on := 17, ground := Ground.data }, { on := 16, ground := Ground.guard }], guard := some (16, true) }) (v := ?_) rfl (by kernel_rfl) (by kernel_rfl) (by kernel_rfl) (fun _ _ _ h => h) (Or.inl ⟨by rfl, ?_⟩) (by assumption) ?_
      rotate_left
      · intro wt hSw; (try dsimp only at hSw); have s0 := cellB hSw s0 z0; have g0 := cellB hSw g0 z1; have g1 := cellB hSw g1 z1; have g2 := cellB hSw g2 z1; have g3 := cellB hSw g3 z1; first | (go_simp; done) | (go_simp; with_reducible rfl) | (trace_state; fail)
      try simp only [Act.put, List.setIfInBounds_toArray, List.set_cons_zero, List.set_cons_succ]
      refine wpAnyH_take (i := 19) (oi := { dst := some 96, op := Op.binOp BinOp.geq 3 (Operand.tmp 95) (Operand.const (Value.int IntKind.i64 0)) 3, type := 4, pos := _, after := #[{ on := 18, ground := Ground.data }, { on := 16, ground := Ground.guard }], guard := some (16, true) }) (v := ?_) rfl (by kernel_rfl) (by kernel_rfl) (by kernel_rfl) (fun _ _ _ h => h) (Or.inl ⟨by rfl, ?_⟩) (by assumption) ?_
      rotate_left
      · intro wt hSw; (try dsimp only at hSw); have s0 := cellB hSw s0 z0; have g0 := cellB hSw g0 z1; have g1 := cellB hSw g1 z1; have g2 := cellB hSw g2 z1; have g3 := cellB hSw g3 z1; first | (go_simp; done) | (go_simp; with_reducible rfl) | (trace_state; fail)
      try simp only [Act.put, List.setIfInBounds_toArray, List.set_cons_zero, List.set_cons_succ]
      refine wpAnyH_take (i := 20) (oi := { dst := some 97, op := Op.pick (Operand.tmp 93) (Operand.tmp 96) (Operand.const (Value.bool false)), type := 4, pos := _, after := #[{ on := 16, ground := Ground.data }, { on := 19, ground := Ground.data }], guard := none }) (v := ?_) rfl (by kernel_rfl) (by kernel_rfl) (by kernel_rfl) (fun _ _ _ h => h) (Or.inl ⟨by rfl, ?_⟩) (by assumption) ?_
      rotate_left
      · intro wt hSw; (try dsimp only at hSw); have s0 := cellB hSw s0 z0; have g0 := cellB hSw g0 z1; have g1 := cellB hSw g1 z1; have g2 := cellB hSw g2 z1; have g3 := cellB hSw g3 z1; first | (go_simp; done) | (go_simp; with_reducible rfl) | (trace_state; fail)
      try simp only [Act.put, List.setIfInBounds_toArray, List.set_cons_zero, List.set_cons_succ]
      refine wpAnyH_take (i := 21) (oi := { dst := some 98, op := Op.move (Operand.tmp 97), type := 4, pos := _, after := #[{ on := 20, ground := Ground.data }, { on := 16, ground := Ground.chain }], guard := none }) (v := ?_) rfl (by kernel_rfl) (by kernel_rfl) (by kernel_rfl) (fun _ _ _ h => h) (Or.inl ⟨by rfl, ?_⟩) (by assumption) ?_
      rotate_left
      · intro wt hSw; (try dsimp only at hSw); have s0 := cellB hSw s0 z0; have g0 := cellB hSw g0 z1; have g1 := cellB hSw g1 z1; have g2 := cellB hSw g2 z1; have g3 := cellB hSw g3 z1; first | (go_simp; done) | (go_simp; with_reducible rfl) | (trace_state; fail)
      try simp only [Act.put, List.setIfInBounds_toArray, List.set_cons_zero, List.set_cons_succ]
      refine wpAnyH_take (i := 22) (oi := { dst := some 99, op := Op.fieldAddr 30 (Operand.tmp 3) 2, type := 0, pos := _, after := #[{ on := 21, ground := Ground.guard }], guard := some (21, true) }) (v := undef) rfl (by kernel_rfl) (by kernel_rfl) (by kernel_rfl) (fun _ _ _ h => h) (Or.inr ⟨by rfl, rfl⟩) (by assumption) ?_
      try simp only [Act.put, List.setIfInBounds_toArray, List.set_cons_zero, List.set_cons_succ]
      refine wpAnyH_take (i := 23) (oi := { dst := some 100, op := Op.load 3 (Operand.tmp 99), type := 3, pos := _, after := #[{ on := 22, ground := Ground.data }, { on := 21, ground := Ground.guard }], guard := some (21, true) }) (v := undef) rfl (by kernel_rfl) (by kernel_rfl) (by kernel_rfl) (fun _ _ _ h => h) (Or.inr ⟨by rfl, rfl⟩) (by assumption) ?_
      try simp only [Act.put, List.setIfInBounds_toArray, List.set_cons_zero, List.set_cons_succ]
      refine wpAnyH_take (i := 24) (oi := { dst := some 101, op := Op.fieldAddr 37 (Operand.tmp 2) 0, type := 0, pos := _, after := #[{ on := 21, ground := Ground.guard }], guard := some (21, true) }) (v := undef) rfl (by kernel_rfl) (by kernel_rfl) (by kernel_rfl) (fun _ _ _ h => h) (Or.inr ⟨by rfl, rfl⟩) (by assumption) ?_
      try simp only [Act.put, List.setIfInBounds_toArray, List.set_cons_zero, List.set_cons_succ]
      refine wpAnyH_take (i := 25) (oi := { dst := some 102, op := Op.load 23 (Operand.tmp 101), type := 23, pos := _, after := #[{ on := 24, ground := Ground.data }, { on := 21, ground := Ground.guard }], guard := some (21, true) }) (v := undef) rfl (by kernel_rfl) (by kernel_rfl) (by kernel_rfl) (fun _ _ _ h => h) (Or.inr ⟨by rfl, rfl⟩) (by assumption) ?_
      try simp only [Act.put, List.setIfInBounds_toArray, List.set_cons_zero, List.set_cons_succ]
      refine wpAnyH_take (i := 26) (oi := { dst := some 103, op := Op.call { callee := Callee.builtin Builtin.len, args := #[Operand.tmp 102], argTypes := #[23] }, type := 3, pos := _, after := #[{ on := 25, ground := Ground.data }, { on := 21, ground := Ground.guard }], guard := some (21, true) }) (v := undef) rfl (by kernel_rfl) (by kernel_rfl) (by kernel_rfl) (fun _ _ _ h => h) (Or.inr ⟨by rfl, rfl⟩) (by assumption) ?_
      try simp only [Act.put, List.setIfInBounds_toArray, List.set_cons_zero, List.set_cons_succ]
      refine wpAnyH_take (i := 27) (oi := { dst := some 104, op := Op.binOp BinOp.lss 3 (Operand.tmp 100) (Operand.tmp 103) 3, type := 4, pos := _, after := #[{ on := 23, ground := Ground.data }, { on := 26, ground := Ground.data }, { on := 21, ground := Ground.guard }], guard := some (21, true) }) (v := undef) rfl (by kernel_rfl) (by kernel_rfl) (by kernel_rfl) (fun _ _ _ h => h) (Or.inr ⟨by rfl, rfl⟩) (by assumption) ?_
      try simp only [Act.put, List.setIfInBounds_toArray, List.set_cons_zero, List.set_cons_succ]
      refine wpAnyH_take (i := 28) (oi := { dst := some 105, op := Op.pick (Operand.tmp 98) (Operand.tmp 104) (Operand.const (Value.bool false)), type := 4, pos := _, after := #[{ on := 21, ground := Ground.data }, { on := 27, ground := Ground.data }], guard := none }) (v := ?_) rfl (by kernel_rfl) (by kernel_rfl) (by kernel_rfl) (fun _ _ _ h => h) (Or.inl ⟨by rfl, ?_⟩) (by assumption) ?_
      rotate_left
      · intro wt hSw; (try dsimp only at hSw); have s0 := cellB hSw s0 z0; have g0 := cellB hSw g0 z1; have g1 := cellB hSw g1 z1; have g2 := cellB hSw g2 z1; have g3 := cellB hSw g3 z1; first | (go_simp; done) | (go_simp; with_reducible rfl) | (trace_state; fail)
      try simp only [Act.put, List.setIfInBounds_toArray, List.set_cons_zero, List.set_cons_succ]
      refine wpAnyH_take (i := 29) (oi := { dst := some 106, op := Op.move (Operand.tmp 105), type := 4, pos := _, after := #[{ on := 28, ground := Ground.data }, { on := 21, ground := Ground.chain }], guard := none }) (v := ?_) rfl (by kernel_rfl) (by kernel_rfl) (by kernel_rfl) (fun _ _ _ h => h) (Or.inl ⟨by rfl, ?_⟩) (by assumption) ?_
      rotate_left
      · intro wt hSw; (try dsimp only at hSw); have s0 := cellB hSw s0 z0; have g0 := cellB hSw g0 z1; have g1 := cellB hSw g1 z1; have g2 := cellB hSw g2 z1; have g3 := cellB hSw g3 z1; first | (go_simp; done) | (go_simp; with_reducible rfl) | (trace_state; fail)
      try simp only [Act.put, List.setIfInBounds_toArray, List.set_cons_zero, List.set_cons_succ]
      refine wpAnyH_take (i := 30) (oi := { dst := some 107, op := Op.fieldAddr 37 (Operand.tmp 2) 0, type := 0, pos := _, after := #[{ on := 29, ground := Ground.guard }], guard := some (29, true) }) (v := undef) rfl (by kernel_rfl) (by kernel_rfl) (by kernel_rfl) (fun _ _ _ h => h) (Or.inr ⟨by rfl, rfl⟩) (by assumption) ?_
      try simp only [Act.put, List.setIfInBounds_toArray, List.set_cons_zero, List.set_cons_succ]
      refine wpAnyH_take (i := 31) (oi := { dst := some 108, op := Op.load 23 (Operand.tmp 107), type := 23, pos := _, after := #[{ on := 30, ground := Ground.data }, { on := 29, ground := Ground.guard }], guard := some (29, true) }) (v := undef) rfl (by kernel_rfl) (by kernel_rfl) (by kernel_rfl) (fun _ _ _ h => h) (Or.inr ⟨by rfl, rfl⟩) (by assumption) ?_
      try simp only [Act.put, List.setIfInBounds_toArray, List.set_cons_zero, List.set_cons_succ]
      refine wpAnyH_take (i := 32) (oi := { dst := some 109, op := Op.fieldAddr 30 (Operand.tmp 3) 2, type := 0, pos := _, after := #[{ on := 29, ground := Ground.guard }], guard := some (29, true) }) (v := undef) rfl (by kernel_rfl) (by kernel_rfl) (by kernel_rfl) (fun _ _ _ h => h) (Or.inr ⟨by rfl, rfl⟩) (by assumption) ?_
      try simp only [Act.put, List.setIfInBounds_toArray, List.set_cons_zero, List.set_cons_succ]
      refine wpAnyH_take (i := 33) (oi := { dst := some 110, op := Op.load 3 (Operand.tmp 109), type := 3, pos := _, after := #[{ on := 32, ground := Ground.data }, { on := 29, ground := Ground.guard }], guard := some (29, true) }) (v := undef) rfl (by kernel_rfl) (by kernel_rfl) (by kernel_rfl) (fun _ _ _ h => h) (Or.inr ⟨by rfl, rfl⟩) (by assumption) ?_
      try simp only [Act.put, List.setIfInBounds_toArray, List.set_cons_zero, List.set_cons_succ]
      refine wpAnyH_take (i := 34) (oi := { dst := some 111, op := Op.indexAddr 23 (Operand.tmp 108) (Operand.tmp 110), type := 0, pos := _, after := #[{ on := 31, ground := Ground.data }, { on := 33, ground := Ground.data }, { on := 29, ground := Ground.guard }], guard := some (29, true) }) (v := undef) rfl (by kernel_rfl) (by kernel_rfl) (by kernel_rfl) (fun _ _ _ h => h) (Or.inr ⟨by rfl, rfl⟩) (by assumption) ?_
      try simp only [Act.put, List.setIfInBounds_toArray, List.set_cons_zero, List.set_cons_succ]
      refine wpAnyH_take (i := 35) (oi := { dst := some 112, op := Op.fieldAddr 45 (Operand.tmp 111) 2, type := 0, pos := _, after := #[{ on := 34, ground := Ground.data }, { on := 29, ground := Ground.guard }], guard := some (29, true) }) (v := undef) rfl (by kernel_rfl) (by kernel_rfl) (by kernel_rfl) (fun _ _ _ h => h) (Or.inr ⟨by rfl, rfl⟩) (by assumption) ?_
      try simp only [Act.put, List.setIfInBounds_toArray, List.set_cons_zero, List.set_cons_succ]
      refine wpAnyH_take (i := 36) (oi := { dst := some 113, op := Op.load 3 (Operand.tmp 112), type := 3, pos := _, after := #[{ on := 35, ground := Ground.data }, { on := 29, ground := Ground.guard }], guard := some (29, true) }) (v := undef) rfl (by kernel_rfl) (by kernel_rfl) (by kernel_rfl) (fun _ _ _ h => h) (Or.inr ⟨by rfl, rfl⟩) (by assumption) ?_
      try simp only [Act.put, List.setIfInBounds_toArray, List.set_cons_zero, List.set_cons_succ]
      refine wpAnyH_take (i := 37) (oi := { dst := some 114, op := Op.binOp BinOp.gtr 3 (Operand.tmp 113) (Operand.const (Value.int IntKind.i64 1)) 3, type := 4, pos := _, after := #[{ on := 36, ground := Ground.data }, { on := 29, ground := Ground.guard }], guard := some (29, true) }) (v := undef) rfl (by kernel_rfl) (by kernel_rfl) (by kernel_rfl) (fun _ _ _ h => h) (Or.inr ⟨by rfl, rfl⟩) (by assumption) ?_
      try simp only [Act.put, List.setIfInBounds_toArray, List.set_cons_zero, List.set_cons_succ]
      refine wpAnyH_take (i := 38) (oi := { dst := some 115, op := Op.fieldAddr 30 (Operand.tmp 3) 0, type := 0, pos := _, after := #[{ on := 29, ground := Ground.guard }], guard := some (29, true) }) (v := undef) rfl (by kernel_rfl) (by kernel_rfl) (by kernel_rfl) (fun _ _ _ h => h) (Or.inr ⟨by rfl, rfl⟩) (by assumption) ?_
      try simp only [Act.put, List.setIfInBounds_toArray, List.set_cons_zero, List.set_cons_succ]
      refine wpAnyH_take (i := 39) (oi := { dst := some 116, op := Op.load 3 (Operand.tmp 115), type := 3, pos := _, after := #[{ on := 38, ground := Ground.data }, { on := 29, ground := Ground.guard }], guard := some (29, true) }) (v := undef) rfl (by kernel_rfl) (by kernel_rfl) (by kernel_rfl) (fun _ _ _ h => h) (Or.inr ⟨by rfl, rfl⟩) (by assumption) ?_
      try simp only [Act.put, List.setIfInBounds_toArray, List.set_cons_zero, List.set_cons_succ]
      refine wpAnyH_take (i := 40) (oi := { dst := some 117, op := Op.binOp BinOp.eql 3 (Operand.tmp 116) (Operand.const (Value.int IntKind.i64 4)) 3, type := 4, pos := _, after := #[{ on := 39, ground := Ground.data }, { on := 29, ground := Ground.guard }], guard := some (29, true) }) (v := undef) rfl (by kernel_rfl) (by kernel_rfl) (by kernel_rfl) (fun _ _ _ h => h) (Or.inr ⟨by rfl, rfl⟩) (by assumption) ?_
      try simp only [Act.put, List.setIfInBounds_toArray, List.set_cons_zero, List.set_cons_succ]
      refine wpAnyH_take (i := 41) (oi := { dst := some 118, op := Op.binOp BinOp.eql 4 (Operand.tmp 114) (Operand.tmp 117) 4, type := 4, pos := _, after := #[{ on := 37, ground := Ground.data }, { on := 40, ground := Ground.data }, { on := 29, ground := Ground.guard }], guard := some (29, true) }) (v := undef) rfl (by kernel_rfl) (by kernel_rfl) (by kernel_rfl) (fun _ _ _ h => h) (Or.inr ⟨by rfl, rfl⟩) (by assumption) ?_
      try simp only [Act.put, List.setIfInBounds_toArray, List.set_cons_zero, List.set_cons_succ]
      refine wpAnyH_take (i := 42) (oi := { dst := some 119, op := Op.pick (Operand.tmp 106) (Operand.tmp 118) (Operand.const (Value.bool false)), type := 4, pos := _, after := #[{ on := 29, ground := Ground.data }, { on := 41, ground := Ground.data }], guard := none }) (v := ?_) rfl (by kernel_rfl) (by kernel_rfl) (by kernel_rfl) (fun _ _ _ h => h) (Or.inl ⟨by rfl, ?_⟩) (by assumption) ?_
      rotate_left
      · intro wt hSw; (try dsimp only at hSw); have s0 := cellB hSw s0 z0; have g0 := cellB hSw g0 z1; have g1 := cellB hSw g1 z1; have g2 := cellB hSw g2 z1; have g3 := cellB hSw g3 z1; first | (go_simp; done) | (go_simp; with_reducible rfl) | (trace_state; fail)
      try simp only [Act.put, List.setIfInBounds_toArray, List.set_cons_zero, List.set_cons_succ]
      refine wpAnyH_take (i := 43) (oi := { dst := some 120, op := Op.move (Operand.tmp 119), type := 4, pos := _, after := #[{ on := 42, ground := Ground.data }, { on := 29, ground := Ground.chain }], guard := none }) (v := ?_) rfl (by kernel_rfl) (by kernel_rfl) (by kernel_rfl) (fun _ _ _ h => h) (Or.inl ⟨by rfl, ?_⟩) (by assumption) ?_
      rotate_left
      · intro wt hSw; (try dsimp only at hSw); have s0 := cellB hSw s0 z0; have g0 := cellB hSw g0 z1; have g1 := cellB hSw g1 z1; have g2 := cellB hSw g2 z1; have g3 := cellB hSw g3 z1; first | (go_simp; done) | (go_simp; with_reducible rfl) | (trace_state; fail)
      try simp only [Act.put, List.setIfInBounds_toArray, List.set_cons_zero, List.set_cons_succ]
      refine wpAnyH_take (i := 44) (oi := { dst := some 121, op := Op.move (Operand.tmp 5), type := 3, pos := _, after := #[{ on := 43, ground := Ground.guard }], guard := some (43, true) }) (v := undef) rfl (by kernel_rfl) (by kernel_rfl) (by kernel_rfl) (fun _ _ _ h => h) (Or.inr ⟨by rfl, rfl⟩) (by assumption) ?_
      try simp only [Act.put, List.setIfInBounds_toArray, List.set_cons_zero, List.set_cons_succ]
      refine wpAnyH_take (i := 45) (oi := { dst := some 122, op := Op.binOp BinOp.eql 3 (Operand.tmp 121) (Operand.const (Value.int IntKind.i64 0)) 3, type := 4, pos := _, after := #[{ on := 44, ground := Ground.data }, { on := 43, ground := Ground.guard }], guard := some (43, true) }) (v := undef) rfl (by kernel_rfl) (by kernel_rfl) (by kernel_rfl) (fun _ _ _ h => h) (Or.inr ⟨by rfl, rfl⟩) (by assumption) ?_
      try simp only [Act.put, List.setIfInBounds_toArray, List.set_cons_zero, List.set_cons_succ]
      refine wpAnyH_take (i := 46) (oi := { dst := some 123, op := Op.move (Operand.tmp 122), type := 4, pos := _, after := #[{ on := 45, ground := Ground.data }, { on := 43, ground := Ground.chain }, { on := 43, ground := Ground.guard }], guard := some (43, true) }) (v := undef) rfl (by kernel_rfl) (by kernel_rfl) (by kernel_rfl) (fun _ _ _ h => h) (Or.inr ⟨by rfl, rfl⟩) (by assumption) ?_
      try simp only [Act.put, List.setIfInBounds_toArray, List.set_cons_zero, List.set_cons_succ]
      refine wpAnyH_take (i := 47) (oi := { dst := some 124, op := Op.move (Operand.tmp 6), type := 3, pos := _, after := #[{ on := 46, ground := Ground.guard }], guard := some (46, false) }) (v := undef) rfl (by kernel_rfl) (by kernel_rfl) (by kernel_rfl) (fun _ _ _ h => h) (Or.inr ⟨by rfl, rfl⟩) (by assumption) ?_
      try simp only [Act.put, List.setIfInBounds_toArray, List.set_cons_zero, List.set_cons_succ]
      refine wpAnyH_take (i := 48) (oi := { dst := some 125, op := Op.binOp BinOp.eql 3 (Operand.tmp 124) (Operand.const (Value.int IntKind.i64 2)) 3, type := 4, pos := _, after := #[{ on := 47, ground := Ground.data }, { on := 46, ground := Ground.guard }], guard := some (46, false) }) (v := undef) rfl (by kernel_rfl) (by kernel_rfl) (by kernel_rfl) (fun _ _ _ h => h) (Or.inr ⟨by rfl, rfl⟩) (by assumption) ?_
      try simp only [Act.put, List.setIfInBounds_toArray, List.set_cons_zero, List.set_cons_succ]
      refine wpAnyH_take (i := 49) (oi := { dst := some 126, op := Op.pick (Operand.tmp 123) (Operand.const (Value.bool true)) (Operand.tmp 125), type := 4, pos := _, after := #[{ on := 46, ground := Ground.data }, { on := 48, ground := Ground.data }, { on := 43, ground := Ground.guard }], guard := some (43, true) }) (v := undef) rfl (by kernel_rfl) (by kernel_rfl) (by kernel_rfl) (fun _ _ _ h => h) (Or.inr ⟨by rfl, rfl⟩) (by assumption) ?_
      try simp only [Act.put, List.setIfInBounds_toArray, List.set_cons_zero, List.set_cons_succ]
      refine wpAnyH_take (i := 50) (oi := { dst := some 127, op := Op.pick (Operand.tmp 120) (Operand.tmp 126) (Operand.const (Value.bool false)), type := 4, pos := _, after := #[{ on := 43, ground := Ground.data }, { on := 49, ground := Ground.data }], guard := none }) (v := ?_) rfl (by kernel_rfl) (by kernel_rfl) (by kernel_rfl) (fun _ _ _ h => h) (Or.inl ⟨by rfl, ?_⟩) (by assumption) ?_
      rotate_left
      · intro wt hSw; (try dsimp only at hSw); have s0 := cellB hSw s0 z0; have g0 := cellB hSw g0 z1; have g1 := cellB hSw g1 z1; have g2 := cellB hSw g2 z1; have g3 := cellB hSw g3 z1; first | (go_simp; done) | (go_simp; with_reducible rfl) | (trace_state; fail)
      try simp only [Act.put, List.setIfInBounds_toArray, List.set_cons_zero, List.set_cons_succ]
      refine wpAnyH_done (by kernel_rfl) ?_ _
      have HHw := Lib.hid (HB0.out.trans (hHeld.mono HB0.out.size))
      have s0 := cellB hHeld s0 z0
      have g2 := cellB hHeld g2 z1
      clear hHeld
      go_wp2_with fail
      refine (hK0 _).mono ?_; rintro r w2 ⟨rfl, rfl⟩
      go_wp2_with fail
      go_ret
      exact ⟨by rw [hres.out]; rfl, HHw.out⟩
    obtain ⟨k, rfl⟩ : ∃ k : Nat, n = (k : Int) := ⟨n.toNat, by omega⟩
    by_cases hk : k < NV
    case neg =>
      have ek : ((k : Int) < (NV : Int)) = False := eq_false (by omega)
      have ek2 : (k < NV) = False := eq_false hk
      have hin : inb (k : Int) NV = false := decide_eq_false (by omega)
      have hres := Lib.hid (show leafT s ⟨2, 0, (k : Int), 0, []⟩ = 0 by unfold leafT; simp [HNV.out, hin])
      clear hn hin hk
      go_enter Tryd.func11, Tryd.ntmps11
      go_upto_region 17 with fail
      rw [← HW0.out]
      refine wp_region_held_drew (S := (fun w' => Below W0.heap.size W0 w')) (by kernel_rfl) ?_ (fun hHeld => ?_)
      · (try dsimp only); first | assumption | exact Below.alloc hHeld hHeld.size _ | exact (Below.refl _ _).drew | exact Below.drew (Below.refl _ _) | exact Below_drewN _ _ _ | exact Below.refl _ _ | (trace_state; fail)
      refine wpAnyH_take (i := 0) (oi := { dst := some 77, op := Op.move (Operand.tmp 5), type := 3, pos := _, after := #[], guard := none }) (v := ?_) rfl (by kernel_rfl) (by kernel_rfl) (by kernel_rfl) (fun _ _ _ h => h) (Or.inl ⟨by rfl, ?_⟩) (by assumption) ?_
      rotate_left
      · intro wt hSw; (try dsimp only at hSw); have s0 := cellB hSw s0 z0; have g0 := cellB hSw g0 z1; have g1 := cellB hSw g1 z1; have g2 := cellB hSw g2 z1; have g3 := cellB hSw g3 z1; first | (go_simp; done) | (go_simp; with_reducible rfl) | (trace_state; fail)
      try simp only [Act.put, List.setIfInBounds_toArray, List.set_cons_zero, List.set_cons_succ]
      refine wpAnyH_take (i := 1) (oi := { dst := some 78, op := Op.fieldAddr 30 (Operand.tmp 3) 0, type := 0, pos := _, after := #[], guard := none }) (v := ?_) rfl (by kernel_rfl) (by kernel_rfl) (by kernel_rfl) (fun _ _ _ h => h) (Or.inl ⟨by rfl, ?_⟩) (by assumption) ?_
      rotate_left
      · intro wt hSw; (try dsimp only at hSw); have s0 := cellB hSw s0 z0; have g0 := cellB hSw g0 z1; have g1 := cellB hSw g1 z1; have g2 := cellB hSw g2 z1; have g3 := cellB hSw g3 z1; first | (go_simp; done) | (go_simp; with_reducible rfl) | (trace_state; fail)
      try simp only [Act.put, List.setIfInBounds_toArray, List.set_cons_zero, List.set_cons_succ]
      refine wpAnyH_take (i := 2) (oi := { dst := some 79, op := Op.load 3 (Operand.tmp 78), type := 3, pos := _, after := #[{ on := 1, ground := Ground.data }], guard := none }) (v := ?_) rfl (by kernel_rfl) (by kernel_rfl) (by kernel_rfl) (fun _ _ _ h => h) (Or.inl ⟨by rfl, ?_⟩) (by assumption) ?_
      rotate_left
      · intro wt hSw; (try dsimp only at hSw); have s0 := cellB hSw s0 z0; have g0 := cellB hSw g0 z1; have g1 := cellB hSw g1 z1; have g2 := cellB hSw g2 z1; have g3 := cellB hSw g3 z1; first | (go_simp; done) | (go_simp; with_reducible rfl) | (trace_state; fail)
      try simp only [Act.put, List.setIfInBounds_toArray, List.set_cons_zero, List.set_cons_succ]
      refine wpAnyH_take (i := 3) (oi := { dst := some 80, op := Op.binOp BinOp.sub 3 (Operand.tmp 79) (Operand.const (Value.int IntKind.i64 2)) 3, type := 3, pos := _, after := #[{ on := 2, ground := Ground.data }], guard := none }) (v := ?_) rfl (by kernel_rfl) (by kernel_rfl) (by kernel_rfl) (fun _ _ _ h => h) (Or.inl ⟨by rfl, ?_⟩) (by assumption) ?_
      rotate_left
      · intro wt hSw; (try dsimp only at hSw); have s0 := cellB hSw s0 z0; have g0 := cellB hSw g0 z1; have g1 := cellB hSw g1 z1; have g2 := cellB hSw g2 z1; have g3 := cellB hSw g3 z1; first | (go_simp; done) | (go_simp; with_reducible rfl) | (trace_state; fail)
      try simp only [Act.put, List.setIfInBounds_toArray, List.set_cons_zero, List.set_cons_succ]
      refine wpAnyH_take (i := 4) (oi := { dst := some 81, op := Op.binOp BinOp.quo 3 (Operand.tmp 80) (Operand.const (Value.int IntKind.i64 2)) 3, type := 3, pos := _, after := #[{ on := 3, ground := Ground.data }], guard := none }) (v := ?_) rfl (by kernel_rfl) (by kernel_rfl) (by kernel_rfl) (fun _ _ _ h => h) (Or.inl ⟨by rfl, ?_⟩) (by assumption) ?_
      rotate_left
      · intro wt hSw; (try dsimp only at hSw); have s0 := cellB hSw s0 z0; have g0 := cellB hSw g0 z1; have g1 := cellB hSw g1 z1; have g2 := cellB hSw g2 z1; have g3 := cellB hSw g3 z1; first | (go_simp; done) | (go_simp; with_reducible rfl) | (trace_state; fail)
      try simp only [Act.put, List.setIfInBounds_toArray, List.set_cons_zero, List.set_cons_succ]
      refine wpAnyH_take (i := 5) (oi := { dst := some 82, op := Op.binOp BinOp.eql 3 (Operand.tmp 77) (Operand.tmp 81) 3, type := 4, pos := _, after := #[{ on := 0, ground := Ground.data }, { on := 4, ground := Ground.data }], guard := none }) (v := ?_) rfl (by kernel_rfl) (by kernel_rfl) (by kernel_rfl) (fun _ _ _ h => h) (Or.inl ⟨by rfl, ?_⟩) (by assumption) ?_
      rotate_left
      · intro wt hSw; (try dsimp only at hSw); have s0 := cellB hSw s0 z0; have g0 := cellB hSw g0 z1; have g1 := cellB hSw g1 z1; have g2 := cellB hSw g2 z1; have g3 := cellB hSw g3 z1; first | (go_simp; done) | (go_simp; with_reducible rfl) | (trace_state; fail)
      try simp only [Act.put, List.setIfInBounds_toArray, List.set_cons_zero, List.set_cons_succ]
      refine wpAnyH_take (i := 6) (oi := { dst := some 83, op := Op.move (Operand.tmp 82), type := 4, pos := _, after := #[{ on := 5, ground := Ground.data }], guard := none }) (v := ?_) rfl (by kernel_rfl) (by kernel_rfl) (by kernel_rfl) (fun _ _ _ h => h) (Or.inl ⟨by rfl, ?_⟩) (by assumption) ?_
      rotate_left
      · intro wt hSw; (try dsimp only at hSw); have s0 := cellB hSw s0 z0; have g0 := cellB hSw g0 z1; have g1 := cellB hSw g1 z1; have g2 := cellB hSw g2 z1; have g3 := cellB hSw g3 z1; first | (go_simp; done) | (go_simp; with_reducible rfl) | (trace_state; fail)
      try simp only [Act.put, List.setIfInBounds_toArray, List.set_cons_zero, List.set_cons_succ]
      refine wpAnyH_take (i := 7) (oi := { dst := some 84, op := Op.fieldAddr 30 (Operand.tmp 3) 1, type := 0, pos := _, after := #[{ on := 6, ground := Ground.guard }], guard := some (6, true) }) (v := ?_) rfl (by kernel_rfl) (by kernel_rfl) (by kernel_rfl) (fun _ _ _ h => h) (Or.inl ⟨by rfl, ?_⟩) (by assumption) ?_
      rotate_left
      · intro wt hSw; (try dsimp only at hSw); have s0 := cellB hSw s0 z0; have g0 := cellB hSw g0 z1; have g1 := cellB hSw g1 z1; have g2 := cellB hSw g2 z1; have g3 := cellB hSw g3 z1; first | (go_simp; done) | (go_simp; with_reducible rfl) | (trace_state; fail)
      try simp only [Act.put, List.setIfInBounds_toArray, List.set_cons_zero, List.set_cons_succ]
      refine wpAnyH_take (i := 8) (oi := { dst := some 85, op := Op.load 3 (Operand.tmp 84), type := 3, pos := _, after := #[{ on := 7, ground := Ground.data }, { on := 6, ground := Ground.guard }], guard := some (6, true) }) (v := ?_) rfl (by kernel_rfl) (by kernel_rfl) (by kernel_rfl) (fun _ _ _ h => h) (Or.inl ⟨by rfl, ?_⟩) (by assumption) ?_
      rotate_left
      · intro wt hSw; (try dsimp only at hSw); have s0 := cellB hSw s0 z0; have g0 := cellB hSw g0 z1; have g1 := cellB hSw g1 z1; have g2 := cellB hSw g2 z1; have g3 := cellB hSw g3 z1; first | (go_simp; done) | (go_simp; with_reducible rfl) | (trace_state; fail)
      try simp only [Act.put, List.setIfInBounds_toArray, List.set_cons_zero, List.set_cons_succ]
      refine wpAnyH_take (i := 9) (oi := { dst := some 86, op := Op.binOp BinOp.eql 3 (Operand.tmp 85) (Operand.const (Value.int IntKind.i64 0)) 3, type := 4, pos := _, after := #[{ on := 8, ground := Ground.data }, { on := 6, ground := Ground.guard }], guard := some (6, true) }) (v := ?_) rfl (by kernel_rfl) (by kernel_rfl) (by kernel_rfl) (fun _ _ _ h => h) (Or.inl ⟨by rfl, ?_⟩) (by assumption) ?_
      rotate_left
      · intro wt hSw; (try dsimp only at hSw); have s0 := cellB hSw s0 z0; have g0 := cellB hSw g0 z1; have g1 := cellB hSw g1 z1; have g2 := cellB hSw g2 z1; have g3 := cellB hSw g3 z1; first | (go_simp; done) | (go_simp; with_reducible rfl) | (trace_state; fail)
      try simp only [Act.put, List.setIfInBounds_toArray, List.set_cons_zero, List.set_cons_succ]
      refine wpAnyH_take (i := 10) (oi := { dst := some 87, op := Op.pick (Operand.tmp 83) (Operand.tmp 86) (Operand.const (Value.bool false)), type := 4, pos := _, after := #[{ on := 6, ground := Ground.data }, { on := 9, ground := Ground.data }], guard := none }) (v := ?_) rfl (by kernel_rfl) (by kernel_rfl) (by kernel_rfl) (fun _ _ _ h => h) (Or.inl ⟨by rfl, ?_⟩) (by assumption) ?_
      rotate_left
      · intro wt hSw; (try dsimp only at hSw); have s0 := cellB hSw s0 z0; have g0 := cellB hSw g0 z1; have g1 := cellB hSw g1 z1; have g2 := cellB hSw g2 z1; have g3 := cellB hSw g3 z1; first | (go_simp; done) | (go_simp; with_reducible rfl) | (trace_state; fail)
      try simp only [Act.put, List.setIfInBounds_toArray, List.set_cons_zero, List.set_cons_succ]
      refine wpAnyH_take (i := 11) (oi := { dst := some 88, op := Op.move (Operand.tmp 87), type := 4, pos := _, after := #[{ on := 10, ground := Ground.data }, { on := 6, ground := Ground.chain }], guard := none }) (v := ?_) rfl (by kernel_rfl) (by kernel_rfl) (by kernel_rfl) (fun _ _ _ h => h) (Or.inl ⟨by rfl, ?_⟩) (by assumption) ?_
      rotate_left
      · intro wt hSw; (try dsimp only at hSw); have s0 := cellB hSw s0 z0; have g0 := cellB hSw g0 z1; have g1 := cellB hSw g1 z1; have g2 := cellB hSw g2 z1; have g3 := cellB hSw g3 z1; first | (go_simp; done) | (go_simp; with_reducible rfl) | (trace_state; fail)
      try simp only [Act.put, List.setIfInBounds_toArray, List.set_cons_zero, List.set_cons_succ]
      refine wpAnyH_take (i := 12) (oi := { dst := some 89, op := Op.fieldAddr 30 (Operand.tmp 3) 3, type := 0, pos := _, after := #[{ on := 11, ground := Ground.guard }], guard := some (11, true) }) (v := ?_) rfl (by kernel_rfl) (by kernel_rfl) (by kernel_rfl) (fun _ _ _ h => h) (Or.inl ⟨by rfl, ?_⟩) (by assumption) ?_
      rotate_left
      · intro wt hSw; (try dsimp only at hSw); have s0 := cellB hSw s0 z0; have g0 := cellB hSw g0 z1; have g1 := cellB hSw g1 z1; have g2 := cellB hSw g2 z1; have g3 := cellB hSw g3 z1; first | (go_simp; done) | (go_simp; with_reducible rfl) | (trace_state; fail)
      try simp only [Act.put, List.setIfInBounds_toArray, List.set_cons_zero, List.set_cons_succ]
      refine wpAnyH_take (i := 13) (oi := { dst := some 90, op := Op.load 3 (Operand.tmp 89), type := 3, pos := _, after := #[{ on := 12, ground := Ground.data }, { on := 11, ground := Ground.guard }], guard := some (11, true) }) (v := ?_) rfl (by kernel_rfl) (by kernel_rfl) (by kernel_rfl) (fun _ _ _ h => h) (Or.inl ⟨by rfl, ?_⟩) (by assumption) ?_
      rotate_left
      · intro wt hSw; (try dsimp only at hSw); have s0 := cellB hSw s0 z0; have g0 := cellB hSw g0 z1; have g1 := cellB hSw g1 z1; have g2 := cellB hSw g2 z1; have g3 := cellB hSw g3 z1; first | (go_simp; done) | (go_simp; with_reducible rfl) | (trace_state; fail)
      try simp only [Act.put, List.setIfInBounds_toArray, List.set_cons_zero, List.set_cons_succ]
      refine wpAnyH_take (i := 14) (oi := { dst := some 91, op := Op.binOp BinOp.eql 3 (Operand.tmp 90) (Operand.const (Value.int IntKind.i64 0)) 3, type := 4, pos := _, after := #[{ on := 13, ground := Ground.data }, { on := 11, ground := Ground.guard }], guard := some (11, true) }) (v := ?_) rfl (by kernel_rfl) (by kernel_rfl) (by kernel_rfl) (fun _ _ _ h => h) (Or.inl ⟨by rfl, ?_⟩) (by assumption) ?_
      rotate_left
      · intro wt hSw; (try dsimp only at hSw); have s0 := cellB hSw s0 z0; have g0 := cellB hSw g0 z1; have g1 := cellB hSw g1 z1; have g2 := cellB hSw g2 z1; have g3 := cellB hSw g3 z1; first | (go_simp; done) | (go_simp; with_reducible rfl) | (trace_state; fail)
      try simp only [Act.put, List.setIfInBounds_toArray, List.set_cons_zero, List.set_cons_succ]
      refine wpAnyH_take (i := 15) (oi := { dst := some 92, op := Op.pick (Operand.tmp 88) (Operand.tmp 91) (Operand.const (Value.bool false)), type := 4, pos := _, after := #[{ on := 11, ground := Ground.data }, { on := 14, ground := Ground.data }], guard := none }) (v := ?_) rfl (by kernel_rfl) (by kernel_rfl) (by kernel_rfl) (fun _ _ _ h => h) (Or.inl ⟨by rfl, ?_⟩) (by assumption) ?_
      rotate_left
      · intro wt hSw; (try dsimp only at hSw); have s0 := cellB hSw s0 z0; have g0 := cellB hSw g0 z1; have g1 := cellB hSw g1 z1; have g2 := cellB hSw g2 z1; have g3 := cellB hSw g3 z1; first | (go_simp; done) | (go_simp; with_reducible rfl) | (trace_state; fail)
      try simp only [Act.put, List.setIfInBounds_toArray, List.set_cons_zero, List.set_cons_succ]
      refine wpAnyH_take (i := 16) (oi := { dst := some 93, op := Op.move (Operand.tmp 92), type := 4, pos := _, after := #[{ on := 15, ground := Ground.data }, { on := 11, ground := Ground.chain }], guard := none }) (v := ?_) rfl (by kernel_rfl) (by kernel_rfl) (by kernel_rfl) (fun _ _ _ h => h) (Or.inl ⟨by rfl, ?_⟩) (by assumption) ?_
      rotate_left
      · intro wt hSw; (try dsimp only at hSw); have s0 := cellB hSw s0 z0; have g0 := cellB hSw g0 z1; have g1 := cellB hSw g1 z1; have g2 := cellB hSw g2 z1; have g3 := cellB hSw g3 z1; first | (go_simp; done) | (go_simp; with_reducible rfl) | (trace_state; fail)
      try simp only [Act.put, List.setIfInBounds_toArray, List.set_cons_zero, List.set_cons_succ]
      refine wpAnyH_take (i := 17) (oi := { dst := some 94, op := Op.fieldAddr 30 (Operand.tmp 3) 2, type := 0, pos := _, after := #[{ on := 16, ground := Ground.guard }], guard := some (16, true) }) (v := ?_) rfl (by kernel_rfl) (by kernel_rfl) (by kernel_rfl) (fun _ _ _ h => h) (Or.inl ⟨by rfl, ?_⟩) (by assumption) ?_
      rotate_left
      · intro wt hSw; (try dsimp only at hSw); have s0 := cellB hSw s0 z0; have g0 := cellB hSw g0 z1; have g1 := cellB hSw g1 z1; have g2 := cellB hSw g2 z1; have g3 := cellB hSw g3 z1; first | (go_simp; done) | (go_simp; with_reducible rfl) | (trace_state; fail)
      try simp only [Act.put, List.setIfInBounds_toArray, List.set_cons_zero, List.set_cons_succ]
      refine wpAnyH_take (i := 18) (oi := { dst := some 95, op := Op.load 3 (Operand.tmp 94), type := 3, pos := _, after := #[{ on := 17, ground := Ground.data }, { on := 16, ground := Ground.guard }], guard := some (16, true) }) (v := ?_) rfl (by kernel_rfl) (by kernel_rfl) (by kernel_rfl) (fun _ _ _ h => h) (Or.inl ⟨by rfl, ?_⟩) (by assumption) ?_
      rotate_left
      · intro wt hSw; (try dsimp only at hSw); have s0 := cellB hSw s0 z0; have g0 := cellB hSw g0 z1; have g1 := cellB hSw g1 z1; have g2 := cellB hSw g2 z1; have g3 := cellB hSw g3 z1; first | (go_simp; done) | (go_simp; with_reducible rfl) | (trace_state; fail)
      try simp only [Act.put, List.setIfInBounds_toArray, List.set_cons_zero, List.set_cons_succ]
      refine wpAnyH_take (i := 19) (oi := { dst := some 96, op := Op.binOp BinOp.geq 3 (Operand.tmp 95) (Operand.const (Value.int IntKind.i64 0)) 3, type := 4, pos := _, after := #[{ on := 18, ground := Ground.data }, { on := 16, ground := Ground.guard }], guard := some (16, true) }) (v := ?_) rfl (by kernel_rfl) (by kernel_rfl) (by kernel_rfl) (fun _ _ _ h => h) (Or.inl ⟨by rfl, ?_⟩) (by assumption) ?_
      rotate_left
      · intro wt hSw; (try dsimp only at hSw); have s0 := cellB hSw s0 z0; have g0 := cellB hSw g0 z1; have g1 := cellB hSw g1 z1; have g2 := cellB hSw g2 z1; have g3 := cellB hSw g3 z1; first | (go_simp; done) | (go_simp; with_reducible rfl) | (trace_state; fail)
      try simp only [Act.put, List.setIfInBounds_toArray, List.set_cons_zero, List.set_cons_succ]
      refine wpAnyH_take (i := 20) (oi := { dst := some 97, op := Op.pick (Operand.tmp 93) (Operand.tmp 96) (Operand.const (Value.bool false)), type := 4, pos := _, after := #[{ on := 16, ground := Ground.data }, { on := 19, ground := Ground.data }], guard := none }) (v := ?_) rfl (by kernel_rfl) (by kernel_rfl) (by kernel_rfl) (fun _ _ _ h => h) (Or.inl ⟨by rfl, ?_⟩) (by assumption) ?_
      rotate_left
      · intro wt hSw; (try dsimp only at hSw); have s0 := cellB hSw s0 z0; have g0 := cellB hSw g0 z1; have g1 := cellB hSw g1 z1; have g2 := cellB hSw g2 z1; have g3 := cellB hSw g3 z1; first | (go_simp; done) | (go_simp; with_reducible rfl) | (trace_state; fail)
      try simp only [Act.put, List.setIfInBounds_toArray, List.set_cons_zero, List.set_cons_succ]
      refine wpAnyH_take (i := 21) (oi := { dst := some 98, op := Op.move (Operand.tmp 97), type := 4, pos := _, after := #[{ on := 20, ground := Ground.data }, { on := 16, ground := Ground.chain }], guard := none }) (v := ?_) rfl (by kernel_rfl) (by kernel_rfl) (by kernel_rfl) (fun _ _ _ h => h) (Or.inl ⟨by rfl, ?_⟩) (by assumption) ?_
      rotate_left
      · intro wt hSw; (try dsimp only at hSw); have s0 := cellB hSw s0 z0; have g0 := cellB hSw g0 z1; have g1 := cellB hSw g1 z1; have g2 := cellB hSw g2 z1; have g3 := cellB hSw g3 z1; first | (go_simp; done) | (go_simp; with_reducible rfl) | (trace_state; fail)
      try simp only [Act.put, List.setIfInBounds_toArray, List.set_cons_zero, List.set_cons_succ]
      refine wpAnyH_take (i := 22) (oi := { dst := some 99, op := Op.fieldAddr 30 (Operand.tmp 3) 2, type := 0, pos := _, after := #[{ on := 21, ground := Ground.guard }], guard := some (21, true) }) (v := ?_) rfl (by kernel_rfl) (by kernel_rfl) (by kernel_rfl) (fun _ _ _ h => h) (Or.inl ⟨by rfl, ?_⟩) (by assumption) ?_
      rotate_left
      · intro wt hSw; (try dsimp only at hSw); have s0 := cellB hSw s0 z0; have g0 := cellB hSw g0 z1; have g1 := cellB hSw g1 z1; have g2 := cellB hSw g2 z1; have g3 := cellB hSw g3 z1; first | (go_simp; done) | (go_simp; with_reducible rfl) | (trace_state; fail)
      try simp only [Act.put, List.setIfInBounds_toArray, List.set_cons_zero, List.set_cons_succ]
      refine wpAnyH_take (i := 23) (oi := { dst := some 100, op := Op.load 3 (Operand.tmp 99), type := 3, pos := _, after := #[{ on := 22, ground := Ground.data }, { on := 21, ground := Ground.guard }], guard := some (21, true) }) (v := ?_) rfl (by kernel_rfl) (by kernel_rfl) (by kernel_rfl) (fun _ _ _ h => h) (Or.inl ⟨by rfl, ?_⟩) (by assumption) ?_
      rotate_left
      · intro wt hSw; (try dsimp only at hSw); have s0 := cellB hSw s0 z0; have g0 := cellB hSw g0 z1; have g1 := cellB hSw g1 z1; have g2 := cellB hSw g2 z1; have g3 := cellB hSw g3 z1; first | (go_simp; done) | (go_simp; with_reducible rfl) | (trace_state; fail)
      try simp only [Act.put, List.setIfInBounds_toArray, List.set_cons_zero, List.set_cons_succ]
      refine wpAnyH_take (i := 24) (oi := { dst := some 101, op := Op.fieldAddr 37 (Operand.tmp 2) 0, type := 0, pos := _, after := #[{ on := 21, ground := Ground.guard }], guard := some (21, true) }) (v := ?_) rfl (by kernel_rfl) (by kernel_rfl) (by kernel_rfl) (fun _ _ _ h => h) (Or.inl ⟨by rfl, ?_⟩) (by assumption) ?_
      rotate_left
      · intro wt hSw; (try dsimp only at hSw); have s0 := cellB hSw s0 z0; have g0 := cellB hSw g0 z1; have g1 := cellB hSw g1 z1; have g2 := cellB hSw g2 z1; have g3 := cellB hSw g3 z1; first | (go_simp; done) | (go_simp; with_reducible rfl) | (trace_state; fail)
      try simp only [Act.put, List.setIfInBounds_toArray, List.set_cons_zero, List.set_cons_succ]
      refine wpAnyH_take (i := 25) (oi := { dst := some 102, op := Op.load 23 (Operand.tmp 101), type := 23, pos := _, after := #[{ on := 24, ground := Ground.data }, { on := 21, ground := Ground.guard }], guard := some (21, true) }) (v := ?_) rfl (by kernel_rfl) (by kernel_rfl) (by kernel_rfl) (fun _ _ _ h => h) (Or.inl ⟨by rfl, ?_⟩) (by assumption) ?_
      rotate_left
      · intro wt hSw; (try dsimp only at hSw); have s0 := cellB hSw s0 z0; have g0 := cellB hSw g0 z1; have g1 := cellB hSw g1 z1; have g2 := cellB hSw g2 z1; have g3 := cellB hSw g3 z1; first | (go_simp; done) | (go_simp; with_reducible rfl) | (trace_state; fail)
      try simp only [Act.put, List.setIfInBounds_toArray, List.set_cons_zero, List.set_cons_succ]
      refine wpAnyH_take (i := 26) (oi := { dst := some 103, op := Op.call { callee := Callee.builtin Builtin.len, args := #[Operand.tmp 102], argTypes := #[23] }, type := 3, pos := _, after := #[{ on := 25, ground := Ground.data }, { on := 21, ground := Ground.guard }], guard := some (21, true) }) (v := ?_) rfl (by kernel_rfl) (by kernel_rfl) (by kernel_rfl) (fun _ _ _ h => h) (Or.inl ⟨by rfl, ?_⟩) (by assumption) ?_
      rotate_left
      · intro wt hSw; (try dsimp only at hSw); have s0 := cellB hSw s0 z0; have g0 := cellB hSw g0 z1; have g1 := cellB hSw g1 z1; have g2 := cellB hSw g2 z1; have g3 := cellB hSw g3 z1; first | (go_simp; done) | (go_simp; with_reducible rfl) | (trace_state; fail)
      try simp only [Act.put, List.setIfInBounds_toArray, List.set_cons_zero, List.set_cons_succ]
      refine wpAnyH_take (i := 27) (oi := { dst := some 104, op := Op.binOp BinOp.lss 3 (Operand.tmp 100) (Operand.tmp 103) 3, type := 4, pos := _, after := #[{ on := 23, ground := Ground.data }, { on := 26, ground := Ground.data }, { on := 21, ground := Ground.guard }], guard := some (21, true) }) (v := ?_) rfl (by kernel_rfl) (by kernel_rfl) (by kernel_rfl) (fun _ _ _ h => h) (Or.inl ⟨by rfl, ?_⟩) (by assumption) ?_
      rotate_left
      · intro wt hSw; (try dsimp only at hSw); have s0 := cellB hSw s0 z0; have g0 := cellB hSw g0 z1; have g1 := cellB hSw g1 z1; have g2 := cellB hSw g2 z1; have g3 := cellB hSw g3 z1; first | (go_simp; done) | (go_simp; with_reducible rfl) | (trace_state; fail)
      try simp only [Act.put, List.setIfInBounds_toArray, List.set_cons_zero, List.set_cons_succ]
      refine wpAnyH_take (i := 28) (oi := { dst := some 105, op := Op.pick (Operand.tmp 98) (Operand.tmp 104) (Operand.const (Value.bool false)), type := 4, pos := _, after := #[{ on := 21, ground := Ground.data }, { on := 27, ground := Ground.data }], guard := none }) (v := ?_) rfl (by kernel_rfl) (by kernel_rfl) (by kernel_rfl) (fun _ _ _ h => h) (Or.inl ⟨by rfl, ?_⟩) (by assumption) ?_
      rotate_left
      · intro wt hSw; (try dsimp only at hSw); have s0 := cellB hSw s0 z0; have g0 := cellB hSw g0 z1; have g1 := cellB hSw g1 z1; have g2 := cellB hSw g2 z1; have g3 := cellB hSw g3 z1; first | (go_simp; done) | (go_simp; with_reducible rfl) | (trace_state; fail)
      try simp only [Act.put, List.setIfInBounds_toArray, List.set_cons_zero, List.set_cons_succ]
      refine wpAnyH_take (i := 29) (oi := { dst := some 106, op := Op.move (Operand.tmp 105), type := 4, pos := _, after := #[{ on := 28, ground := Ground.data }, { on := 21, ground := Ground.chain }], guard := none }) (v := ?_) rfl (by kernel_rfl) (by kernel_rfl) (by kernel_rfl) (fun _ _ _ h => h) (Or.inl ⟨by rfl, ?_⟩) (by assumption) ?_
      rotate_left
      · intro wt hSw; (try dsimp only at hSw); have s0 := cellB hSw s0 z0; have g0 := cellB hSw g0 z1; have g1 := cellB hSw g1 z1; have g2 := cellB hSw g2 z1; have g3 := cellB hSw g3 z1; first | (go_simp; done) | (go_simp; with_reducible rfl) | (trace_state; fail)
      try simp only [Act.put, List.setIfInBounds_toArray, List.set_cons_zero, List.set_cons_succ]
      refine wpAnyH_take (i := 30) (oi := { dst := some 107, op := Op.fieldAddr 37 (Operand.tmp 2) 0, type := 0, pos := _, after := #[{ on := 29, ground := Ground.guard }], guard := some (29, true) }) (v := undef) rfl (by kernel_rfl) (by kernel_rfl) (by kernel_rfl) (fun _ _ _ h => h) (Or.inr ⟨by rfl, rfl⟩) (by assumption) ?_
      try simp only [Act.put, List.setIfInBounds_toArray, List.set_cons_zero, List.set_cons_succ]
      refine wpAnyH_take (i := 31) (oi := { dst := some 108, op := Op.load 23 (Operand.tmp 107), type := 23, pos := _, after := #[{ on := 30, ground := Ground.data }, { on := 29, ground := Ground.guard }], guard := some (29, true) }) (v := undef) rfl (by kernel_rfl) (by kernel_rfl) (by kernel_rfl) (fun _ _ _ h => h) (Or.inr ⟨by rfl, rfl⟩) (by assumption) ?_
      try simp only [Act.put, List.setIfInBounds_toArray, List.set_cons_zero, List.set_cons_succ]
      refine wpAnyH_take (i := 32) (oi := { dst := some 109, op := Op.fieldAddr 30 (Operand.tmp 3) 2, type := 0, pos := _, after := #[{ on := 29, ground := Ground.guard }], guard := some (29, true) }) (v := undef) rfl (by kernel_rfl) (by kernel_rfl) (by kernel_rfl) (fun _ _ _ h => h) (Or.inr ⟨by rfl, rfl⟩) (by assumption) ?_
      try simp only [Act.put, List.setIfInBounds_toArray, List.set_cons_zero, List.set_cons_succ]
      refine wpAnyH_take (i := 33) (oi := { dst := some 110, op := Op.load 3 (Operand.tmp 109), type := 3, pos := _, after := #[{ on := 32, ground := Ground.data }, { on := 29, ground := Ground.guard }], guard := some (29, true) }) (v := undef) rfl (by kernel_rfl) (by kernel_rfl) (by kernel_rfl) (fun _ _ _ h => h) (Or.inr ⟨by rfl, rfl⟩) (by assumption) ?_
      try simp only [Act.put, List.setIfInBounds_toArray, List.set_cons_zero, List.set_cons_succ]
      refine wpAnyH_take (i := 34) (oi := { dst := some 111, op := Op.indexAddr 23 (Operand.tmp 108) (Operand.tmp 110), type := 0, pos := _, after := #[{ on := 31, ground := Ground.data }, { on := 33, ground := Ground.data }, { on := 29, ground := Ground.guard }], guard := some (29, true) }) (v := undef) rfl (by kernel_rfl) (by kernel_rfl) (by kernel_rfl) (fun _ _ _ h => h) (Or.inr ⟨by rfl, rfl⟩) (by assumption) ?_
      try simp only [Act.put, List.setIfInBounds_toArray, List.set_cons_zero, List.set_cons_succ]
      refine wpAnyH_take (i := 35) (oi := { dst := some 112, op := Op.fieldAddr 45 (Operand.tmp 111) 2, type := 0, pos := _, after := #[{ on := 34, ground := Ground.data }, { on := 29, ground := Ground.guard }], guard := some (29, true) }) (v := undef) rfl (by kernel_rfl) (by kernel_rfl) (by kernel_rfl) (fun _ _ _ h => h) (Or.inr ⟨by rfl, rfl⟩) (by assumption) ?_
      try simp only [Act.put, List.setIfInBounds_toArray, List.set_cons_zero, List.set_cons_succ]
      refine wpAnyH_take (i := 36) (oi := { dst := some 113, op := Op.load 3 (Operand.tmp 112), type := 3, pos := _, after := #[{ on := 35, ground := Ground.data }, { on := 29, ground := Ground.guard }], guard := some (29, true) }) (v := undef) rfl (by kernel_rfl) (by kernel_rfl) (by kernel_rfl) (fun _ _ _ h => h) (Or.inr ⟨by rfl, rfl⟩) (by assumption) ?_
      try simp only [Act.put, List.setIfInBounds_toArray, List.set_cons_zero, List.set_cons_succ]
      refine wpAnyH_take (i := 37) (oi := { dst := some 114, op := Op.binOp BinOp.gtr 3 (Operand.tmp 113) (Operand.const (Value.int IntKind.i64 1)) 3, type := 4, pos := _, after := #[{ on := 36, ground := Ground.data }, { on := 29, ground := Ground.guard }], guard := some (29, true) }) (v := undef) rfl (by kernel_rfl) (by kernel_rfl) (by kernel_rfl) (fun _ _ _ h => h) (Or.inr ⟨by rfl, rfl⟩) (by assumption) ?_
      try simp only [Act.put, List.setIfInBounds_toArray, List.set_cons_zero, List.set_cons_succ]
      refine wpAnyH_take (i := 38) (oi := { dst := some 115, op := Op.fieldAddr 30 (Operand.tmp 3) 0, type := 0, pos := _, after := #[{ on := 29, ground := Ground.guard }], guard := some (29, true) }) (v := undef) rfl (by kernel_rfl) (by kernel_rfl) (by kernel_rfl) (fun _ _ _ h => h) (Or.inr ⟨by rfl, rfl⟩) (by assumption) ?_
      try simp only [Act.put, List.setIfInBounds_toArray, List.set_cons_zero, List.set_cons_succ]
      refine wpAnyH_take (i := 39) (oi := { dst := some 116, op := Op.load 3 (Operand.tmp 115), type := 3, pos := _, after := #[{ on := 38, ground := Ground.data }, { on := 29, ground := Ground.guard }], guard := some (29, true) }) (v := undef) rfl (by kernel_rfl) (by kernel_rfl) (by kernel_rfl) (fun _ _ _ h => h) (Or.inr ⟨by rfl, rfl⟩) (by assumption) ?_
      try simp only [Act.put, List.setIfInBounds_toArray, List.set_cons_zero, List.set_cons_succ]
      refine wpAnyH_take (i := 40) (oi := { dst := some 117, op := Op.binOp BinOp.eql 3 (Operand.tmp 116) (Operand.const (Value.int IntKind.i64 4)) 3, type := 4, pos := _, after := #[{ on := 39, ground := Ground.data }, { on := 29, ground := Ground.guard }], guard := some (29, true) }) (v := undef) rfl (by kernel_rfl) (by kernel_rfl) (by kernel_rfl) (fun _ _ _ h => h) (Or.inr ⟨by rfl, rfl⟩) (by assumption) ?_
      try simp only [Act.put, List.setIfInBounds_toArray, List.set_cons_zero, List.set_cons_succ]
      refine wpAnyH_take (i := 41) (oi := { dst := some 118, op := Op.binOp BinOp.eql 4 (Operand.tmp 114) (Operand.tmp 117) 4, type := 4, pos := _, after := #[{ on := 37, ground := Ground.data }, { on := 40, ground := Ground.data }, { on := 29, ground := Ground.guard }], guard := some (29, true) }) (v := undef) rfl (by kernel_rfl) (by kernel_rfl) (by kernel_rfl) (fun _ _ _ h => h) (Or.inr ⟨by rfl, rfl⟩) (by assumption) ?_
      try simp only [Act.put, List.setIfInBounds_toArray, List.set_cons_zero, List.set_cons_succ]
      refine wpAnyH_take (i := 42) (oi := { dst := some 119, op := Op.pick (Operand.tmp 106) (Operand.tmp 118) (Operand.const (Value.bool false)), type := 4, pos := _, after := #[{ on := 29, ground := Ground.data }, { on := 41, ground := Ground.data }], guard := none }) (v := ?_) rfl (by kernel_rfl) (by kernel_rfl) (by kernel_rfl) (fun _ _ _ h => h) (Or.inl ⟨by rfl, ?_⟩) (by assumption) ?_
      rotate_left
      · intro wt hSw; (try dsimp only at hSw); have s0 := cellB hSw s0 z0; have g0 := cellB hSw g0 z1; have g1 := cellB hSw g1 z1; have g2 := cellB hSw g2 z1; have g3 := cellB hSw g3 z1; first | (go_simp; done) | (go_simp; with_reducible rfl) | (trace_state; fail)
      try simp only [Act.put, List.setIfInBounds_toArray, List.set_cons_zero, List.set_cons_succ]
      refine wpAnyH_take (i := 43) (oi := { dst := some 120, op := Op.move (Operand.tmp 119), type := 4, pos := _, after := #[{ on := 42, ground := Ground.data }, { on := 29, ground := Ground.chain }], guard := none }) (v := ?_) rfl (by kernel_rfl) (by kernel_rfl) (by kernel_rfl) (fun _ _ _ h => h) (Or.inl ⟨by rfl, ?_⟩) (by assumption) ?_
      rotate_left
      · intro wt hSw; (try dsimp only at hSw); have s0 := cellB hSw s0 z0; have g0 := cellB hSw g0 z1; have g1 := cellB hSw g1 z1; have g2 := cellB hSw g2 z1; have g3 := cellB hSw g3 z1; first | (go_simp; done) | (go_simp; with_reducible rfl) | (trace_state; fail)
      try simp only [Act.put, List.setIfInBounds_toArray, List.set_cons_zero, List.set_cons_succ]
      refine wpAnyH_take (i := 44) (oi := { dst := some 121, op := Op.move (Operand.tmp 5), type := 3, pos := _, after := #[{ on := 43, ground := Ground.guard }], guard := some (43, true) }) (v := undef) rfl (by kernel_rfl) (by kernel_rfl) (by kernel_rfl) (fun _ _ _ h => h) (Or.inr ⟨by rfl, rfl⟩) (by assumption) ?_
      try simp only [Act.put, List.setIfInBounds_toArray, List.set_cons_zero, List.set_cons_succ]
      refine wpAnyH_take (i := 45) (oi := { dst := some 122, op := Op.binOp BinOp.eql 3 (Operand.tmp 121) (Operand.const (Value.int IntKind.i64 0)) 3, type := 4, pos := _, after := #[{ on := 44, ground := Ground.data }, { on := 43, ground := Ground.guard }], guard := some (43, true) }) (v := undef) rfl (by kernel_rfl) (by kernel_rfl) (by kernel_rfl) (fun _ _ _ h => h) (Or.inr ⟨by rfl, rfl⟩) (by assumption) ?_
      try simp only [Act.put, List.setIfInBounds_toArray, List.set_cons_zero, List.set_cons_succ]
      refine wpAnyH_take (i := 46) (oi := { dst := some 123, op := Op.move (Operand.tmp 122), type := 4, pos := _, after := #[{ on := 45, ground := Ground.data }, { on := 43, ground := Ground.chain }, { on := 43, ground := Ground.guard }], guard := some (43, true) }) (v := undef) rfl (by kernel_rfl) (by kernel_rfl) (by kernel_rfl) (fun _ _ _ h => h) (Or.inr ⟨by rfl, rfl⟩) (by assumption) ?_
      try simp only [Act.put, List.setIfInBounds_toArray, List.set_cons_zero, List.set_cons_succ]
      refine wpAnyH_take (i := 47) (oi := { dst := some 124, op := Op.move (Operand.tmp 6), type := 3, pos := _, after := #[{ on := 46, ground := Ground.guard }], guard := some (46, false) }) (v := undef) rfl (by kernel_rfl) (by kernel_rfl) (by kernel_rfl) (fun _ _ _ h => h) (Or.inr ⟨by rfl, rfl⟩) (by assumption) ?_
      try simp only [Act.put, List.setIfInBounds_toArray, List.set_cons_zero, List.set_cons_succ]
      refine wpAnyH_take (i := 48) (oi := { dst := some 125, op := Op.binOp BinOp.eql 3 (Operand.tmp 124) (Operand.const (Value.int IntKind.i64 2)) 3, type := 4, pos := _, after := #[{ on := 47, ground := Ground.data }, { on := 46, ground := Ground.guard }], guard := some (46, false) }) (v := undef) rfl (by kernel_rfl) (by kernel_rfl) (by kernel_rfl) (fun _ _ _ h => h) (Or.inr ⟨by rfl, rfl⟩) (by assumption) ?_
      try simp only [Act.put, List.setIfInBounds_toArray, List.set_cons_zero, List.set_cons_succ]
      refine wpAnyH_take (i := 49) (oi := { dst := some 126, op := Op.pick (Operand.tmp 123) (Operand.const (Value.bool true)) (Operand.tmp 125), type := 4, pos := _, after := #[{ on := 46, ground := Ground.data }, { on := 48, ground := Ground.data }, { on := 43, ground := Ground.guard }], guard := some (43, true) }) (v := undef) rfl (by kernel_rfl) (by kernel_rfl) (by kernel_rfl) (fun _ _ _ h => h) (Or.inr ⟨by rfl, rfl⟩) (by assumption) ?_
      try simp only [Act.put, List.setIfInBounds_toArray, List.set_cons_zero, List.set_cons_succ]
      refine wpAnyH_take (i := 50) (oi := { dst := some 127, op := Op.pick (Operand.tmp 120) (Operand.tmp 126) (Operand.const (Value.bool false)), type := 4, pos := _, after := #[{ on := 43, ground := Ground.data }, { on := 49, ground := Ground.data }], guard := none }) (v := ?_) rfl (by kernel_rfl) (by kernel_rfl) (by kernel_rfl) (fun _ _ _ h => h) (Or.inl ⟨by rfl, ?_⟩) (by assumption) ?_
      rotate_left
      · intro wt hSw; (try dsimp only at hSw); have s0 := cellB hSw s0 z0; have g0 := cellB hSw g0 z1; have g1 := cellB hSw g1 z1; have g2 := cellB hSw g2 z1; have g3 := cellB hSw g3 z1; first | (go_simp; done) | (go_simp; with_reducible rfl) | (trace_state; fail)
      try simp only [Act.put, List.setIfInBounds_toArray, List.set_cons_zero, List.set_cons_succ]
      refine wpAnyH_done (by kernel_rfl) ?_ _
      have HHw := Lib.hid (HB0.out.trans (hHeld.mono HB0.out.size))
      have s0 := cellB hHeld s0 z0
      have g2 := cellB hHeld g2 z1
      clear hHeld
      go_wp2_with fail
      refine (hK0 _).mono ?_; rintro r w2 ⟨rfl, rfl⟩
      go_wp2_with fail
      go_ret
      exact ⟨by rw [hres.out]; rfl, HHw.out⟩
    have hin : inb (k : Int) NV = true := decide_eq_true (by omega)
    obtain ⟨x, hx⟩ := get_some (L := s.vars) (n := k) (by rw [HNV.out]; exact hk)
    obtain ⟨b, off, rfl, hbw, hc⟩ := var_at (HS.out w (Below.refl _ _)).vs (k := k) (by rw [HNV.out]; exact hk)
    obtain ⟨_, d1, d2, _, _, _⟩ := hc k x hx
    have d1 := (HB0.out.cell (p := ⟨b, off + k * 5 + 1, none⟩) hbw).trans d1
    have d2 := (HB0.out.cell (p := ⟨b, off + k * 5 + 2, none⟩) hbw).trans d2
    have zb : b < W0.heap.size := Nat.lt_of_lt_of_le hbw HB0.out.size
    have hxv : s.v (k : Int) = x := by unfold Sc.v; simp [List.getD, hx]
    have qk : ((k : Int) < (NV : Int)) = True := eq_true (by omega)
    have qk' : (k < NV) = True := eq_true hk
    have hcap := cap_row (HS.out w (Below.refl _ _)).vs hk
    have HX := Lib.hid (show leafT s ⟨2, 0, (k : Int), 0, []⟩ = if x.n < 2 then keepR x.t else 0 by unfold leafT; simp [HNV.out, hin, hxv])
    have hK := ref01_Right x.t
    generalize x.n = xn at *
    generalize x.t = xt at *
    clear hin hn hc hx hxv hk
    by_cases h2 : xn < 2
    case neg =>
      have e2 : (1 < xn) = True := eq_true (by omega)
      have hres := Lib.hid (show leafT s ⟨2, 0, (k : Int), 0, []⟩ = 0 by rw [HX.out, if_neg h2])
      clear h2
      go_enter Tryd.func11, Tryd.ntmps11
      go_upto_region 17 with fail
      rw [← HW0.out]
      refine wp_region_held_drew (S := (fun w' => Below W0.heap.size W0 w')) (by kernel_rfl) ?_ (fun hHeld => ?_)
      · (try dsimp only); first | assumption | exact Below.alloc hHeld hHeld.size _ | exact (Below.refl _ _).drew | exact Below.drew (Below.refl _ _) | exact Below_drewN _ _ _ | exact Below.refl _ _ | (trace_state; fail)
      refine wpAnyH_take (i := 0) (oi := { dst := some 77, op := Op.move (Operand.tmp 5), type := 3, pos := _, after := #[], guard := none }) (v := ?_) rfl (by kernel_rfl) (by kernel_rfl) (by kernel_rfl) (fun _ _ _ h => h) (Or.inl ⟨by rfl, ?_⟩) (by assumption) ?_
      rotate_left
      · intro wt hSw; (try dsimp only at hSw); have s0 := cellB hSw s0 z0; have g0 := cellB hSw g0 z1; have g1 := cellB hSw g1 z1; have g2 := cellB hSw g2 z1; have g3 := cellB hSw g3 z1; have d2 := cellB hSw d2 zb; first | (go_simp; done) | (go_simp; with_reducible rfl) | (trace_state; fail)
      try simp only [Act.put, List.setIfInBounds_toArray, List.set_cons_zero, List.set_cons_succ]
      refine wpAnyH_take (i := 1) (oi := { dst := some 78, op := Op.fieldAddr 30 (Operand.tmp 3) 0, type := 0, pos := _, after := #[], guard := none }) (v := ?_) rfl (by kernel_rfl) (by kernel_rfl) (by kernel_rfl) (fun _ _ _ h => h) (Or.inl ⟨by rfl, ?_⟩) (by assumption) ?_
      rotate_left
      · intro wt hSw; (try dsimp only at hSw); have s0 := cellB hSw s0 z0; have g0 := cellB hSw g0 z1; have g1 := cellB hSw g1 z1; have g2 := cellB hSw g2 z1; have g3 := cellB hSw g3 z1; have d2 := cellB hSw d2 zb; first | (go_simp; done) | (go_simp; with_reducible rfl) | (trace_state; fail)
      try simp only [Act.put, List.setIfInBounds_toArray, List.set_cons_zero, List.set_cons_succ]
      refine wpAnyH_take (i := 2) (oi := { dst := some 79, op := Op.load 3 (Operand.tmp 78), type := 3, pos := _, after := #[{ on := 1, ground := Ground.data }], guard := none }) (v := ?_) rfl (by kernel_rfl) (by kernel_rfl) (by kernel_rfl) (fun _ _ _ h => h) (Or.inl ⟨by rfl, ?_⟩) (by assumption) ?_
      rotate_left
      · intro wt hSw; (try dsimp only at hSw); have s0 := cellB hSw s0 z0; have g0 := cellB hSw g0 z1; have g1 := cellB hSw g1 z1; have g2 := cellB hSw g2 z1; have g3 := cellB hSw g3 z1; have d2 := cellB hSw d2 zb; first | (go_simp; done) | (go_simp; with_reducible rfl) | (trace_state; fail)
      try simp only [Act.put, List.setIfInBounds_toArray, List.set_cons_zero, List.set_cons_succ]
      refine wpAnyH_take (i := 3) (oi := { dst := some 80, op := Op.binOp BinOp.sub 3 (Operand.tmp 79) (Operand.const (Value.int IntKind.i64 2)) 3, type := 3, pos := _, after := #[{ on := 2, ground := Ground.data }], guard := none }) (v := ?_) rfl (by kernel_rfl) (by kernel_rfl) (by kernel_rfl) (fun _ _ _ h => h) (Or.inl ⟨by rfl, ?_⟩) (by assumption) ?_
      rotate_left
      · intro wt hSw; (try dsimp only at hSw); have s0 := cellB hSw s0 z0; have g0 := cellB hSw g0 z1; have g1 := cellB hSw g1 z1; have g2 := cellB hSw g2 z1; have g3 := cellB hSw g3 z1; have d2 := cellB hSw d2 zb; first | (go_simp; done) | (go_simp; with_reducible rfl) | (trace_state; fail)
      try simp only [Act.put, List.setIfInBounds_toArray, List.set_cons_zero, List.set_cons_succ]
      refine wpAnyH_take (i := 4) (oi := { dst := some 81, op := Op.binOp BinOp.quo 3 (Operand.tmp 80) (Operand.const (Value.int IntKind.i64 2)) 3, type := 3, pos := _, after := #[{ on := 3, ground := Ground.data }], guard := none }) (v := ?_) rfl (by kernel_rfl) (by kernel_rfl) (by kernel_rfl) (fun _ _ _ h => h) (Or.inl ⟨by rfl, ?_⟩) (by assumption) ?_
      rotate_left
      · intro wt hSw; (try dsimp only at hSw); have s0 := cellB hSw s0 z0; have g0 := cellB hSw g0 z1; have g1 := cellB hSw g1 z1; have g2 := cellB hSw g2 z1; have g3 := cellB hSw g3 z1; have d2 := cellB hSw d2 zb; first | (go_simp; done) | (go_simp; with_reducible rfl) | (trace_state; fail)
      try simp only [Act.put, List.setIfInBounds_toArray, List.set_cons_zero, List.set_cons_succ]
      refine wpAnyH_take (i := 5) (oi := { dst := some 82, op := Op.binOp BinOp.eql 3 (Operand.tmp 77) (Operand.tmp 81) 3, type := 4, pos := _, after := #[{ on := 0, ground := Ground.data }, { on := 4, ground := Ground.data }], guard := none }) (v := ?_) rfl (by kernel_rfl) (by kernel_rfl) (by kernel_rfl) (fun _ _ _ h => h) (Or.inl ⟨by rfl, ?_⟩) (by assumption) ?_
      rotate_left
      · intro wt hSw; (try dsimp only at hSw); have s0 := cellB hSw s0 z0; have g0 := cellB hSw g0 z1; have g1 := cellB hSw g1 z1; have g2 := cellB hSw g2 z1; have g3 := cellB hSw g3 z1; have d2 := cellB hSw d2 zb; first | (go_simp; done) | (go_simp; with_reducible rfl) | (trace_state; fail)
      try simp only [Act.put, List.setIfInBounds_toArray, List.set_cons_zero, List.set_cons_succ]
      refine wpAnyH_take (i := 6) (oi := { dst := some 83, op := Op.move (Operand.tmp 82), type := 4, pos := _, after := #[{ on := 5, ground := Ground.data }], guard := none }) (v := ?_) rfl (by kernel_rfl) (by kernel_rfl) (by kernel_rfl) (fun _ _ _ h => h) (Or.inl ⟨by rfl, ?_⟩) (by assumption) ?_
      rotate_left
      · intro wt hSw; (try dsimp only at hSw); have s0 := cellB hSw s0 z0; have g0 := cellB hSw g0 z1; have g1 := cellB hSw g1 z1; have g2 := cellB hSw g2 z1; have g3 := cellB hSw g3 z1; have d2 := cellB hSw d2 zb; first | (go_simp; done) | (go_simp; with_reducible rfl) | (trace_state; fail)
      try simp only [Act.put, List.setIfInBounds_toArray, List.set_cons_zero, List.set_cons_succ]
      refine wpAnyH_take (i := 7) (oi := { dst := some 84, op := Op.fieldAddr 30 (Operand.tmp 3) 1, type := 0, pos := _, after := #[{ on := 6, ground := Ground.guard }], guard := some (6, true) }) (v := ?_) rfl (by kernel_rfl) (by kernel_rfl) (by kernel_rfl) (fun _ _ _ h => h) (Or.inl ⟨by rfl, ?_⟩) (by assumption) ?_
      rotate_left
      · intro wt hSw; (try dsimp only at hSw); have s0 := cellB hSw s0 z0; have g0 := cellB hSw g0 z1; have g1 := cellB hSw g1 z1; have g2 := cellB hSw g2 z1; have g3 := cellB hSw g3 z1; have d2 := cellB hSw d2 zb; first | (go_simp; done) | (go_simp; with_reducible rfl) | (trace_state; fail)
      try simp only [Act.put, List.setIfInBounds_toArray, List.set_cons_zero, List.set_cons_succ]
      refine wpAnyH_take (i := 8) (oi := { dst := some 85, op := Op.load 3 (Operand.tmp 84), type := 3, pos := _, after := #[{ on := 7, ground := Ground.data }, { on := 6, ground := Ground.guard }], guard := some (6, true) }) (v := ?_) rfl (by kernel_rfl) (by kernel_rfl) (by kernel_rfl) (fun _ _ _ h => h) (Or.inl ⟨by rfl, ?_⟩) (by assumption) ?_
      rotate_left
      · intro wt hSw; (try dsimp only at hSw); have s0 := cellB hSw s0 z0; have g0 := cellB hSw g0 z1; have g1 := cellB hSw g1 z1; have g2 := cellB hSw g2 z1; have g3 := cellB hSw g3 z1; have d2 := cellB hSw d2 zb; first | (go_simp; done) | (go_simp; with_reducible rfl) | (trace_state; fail)
      try simp only [Act.put, List.setIfInBounds_toArray, List.set_cons_zero, List.set_cons_succ]
      refine wpAnyH_take (i := 9) (oi := { dst := some 86, op := Op.binOp BinOp.eql 3 (Operand.tmp 85) (Operand.const (Value.int IntKind.i64 0)) 3, type := 4, pos := _, after := #[{ on := 8, ground := Ground.data }, { on := 6, ground := Ground.guard }], guard := some (6, true) }) (v := ?_) rfl (by kernel_rfl) (by kernel_rfl) (by kernel_rfl) (fun _ _ _ h => h) (Or.inl ⟨by rfl, ?_⟩) (by assumption) ?_
      rotate_left
      · intro wt hSw; (try dsimp only at hSw); have s0 := cellB hSw s0 z0; have g0 := cellB hSw g0 z1; have g1 := cellB hSw g1 z1; have g2 := cellB hSw g2 z1; have g3 := cellB hSw g3 z1; have d2 := cellB hSw d2 zb; first | (go_simp; done) | (go_simp; with_reducible rfl) | (trace_state; fail)
      try simp only [Act.put, List.setIfInBounds_toArray, List.set_cons_zero, List.set_cons_succ]
      refine wpAnyH_take (i := 10) (oi := { dst := some 87, op := Op.pick (Operand.tmp 83) (Operand.tmp 86) (Operand.const (Value.bool false)), type := 4, pos := _, after := #[{ on := 6, ground := Ground.data }, { on := 9, ground := Ground.data }], guard := none }) (v := ?_) rfl (by kernel_rfl) (by kernel_rfl) (by kernel_rfl) (fun _ _ _ h => h) (Or.inl ⟨by rfl, ?_⟩) (by assumption) ?_
      rotate_left
      · intro wt hSw; (try dsimp only at hSw); have s0 := cellB hSw s0 z0; have g0 := cellB hSw g0 z1; have g1 := cellB hSw g1 z1; have g2 := cellB hSw g2 z1; have g3 := cellB hSw g3 z1; have d2 := cellB hSw d2 zb; first | (go_simp; done) | (go_simp; with_reducible rfl) | (trace_state; fail)
      try simp only [Act.put, List.setIfInBounds_toArray, List.set_cons_zero, List.set_cons_succ]
      refine wpAnyH_take (i := 11) (oi := { dst := some 88, op := Op.move (Operand.tmp 87), type := 4, pos := _, after := #[{ on := 10, ground := Ground.data }, { on := 6, ground := Ground.chain }], guard := none }) (v := ?_) rfl (by kernel_rfl) (by kernel_rfl) (by kernel_rfl) (fun _ _ _ h => h) (Or.inl ⟨by rfl, ?_⟩) (by assumption) ?_
      rotate_left
      · intro wt hSw; (try dsimp only at hSw); have s0 := cellB hSw s0 z0; have g0 := cellB hSw g0 z1; have g1 := cellB hSw g1 z1; have g2 := cellB hSw g2 z1; have g3 := cellB hSw g3 z1; have d2 := cellB hSw d2 zb; first | (go_simp; done) | (go_simp; with_reducible rfl) | (trace_state; fail)
      try simp only [Act.put, List.setIfInBounds_toArray, List.set_cons_zero, List.set_cons_succ]
      refine wpAnyH_take (i := 12) (oi := { dst := some 89, op := Op.fieldAddr 30 (Operand.tmp 3) 3, type := 0, pos := _, after := #[{ on := 11, ground := Ground.guard }], guard := some (11, true) }) (v := ?_) rfl (by kernel_rfl) (by kernel_rfl) (by kernel_rfl) (fun _ _ _ h => h) (Or.inl ⟨by rfl, ?_⟩) (by assumption) ?_
      rotate_left
      · intro wt hSw; (try dsimp only at hSw); have s0 := cellB hSw s0 z0; have g0 := cellB hSw g0 z1; have g1 := cellB hSw g1 z1; have g2 := cellB hSw g2 z1; have g3 := cellB hSw g3 z1; have d2 := cellB hSw d2 zb; first | (go_simp; done) | (go_simp; with_reducible rfl) | (trace_state; fail)
      try simp only [Act.put, List.setIfInBounds_toArray, List.set_cons_zero, List.set_cons_succ]
      refine wpAnyH_take (i := 13) (oi := { dst := some 90, op := Op.load 3 (Operand.tmp 89), type := 3, pos := _, after := #[{ on := 12, ground := Ground.data }, { on := 11, ground := Ground.guard }], guard := some (11, true) }) (v := ?_) rfl (by kernel_rfl) (by kernel_rfl) (by kernel_rfl) (fun _ _ _ h => h) (Or.inl ⟨by rfl, ?_⟩) (by assumption) ?_
      rotate_left
      · intro wt hSw; (try dsimp only at hSw); have s0 := cellB hSw s0 z0; have g0 := cellB hSw g0 z1; have g1 := cellB hSw g1 z1; have g2 := cellB hSw g2 z1; have g3 := cellB hSw g3 z1; have d2 := cellB hSw d2 zb; first | (go_simp; done) | (go_simp; with_reducible rfl) | (trace_state; fail)
      try simp only [Act.put, List.setIfInBounds_toArray, List.set_cons_zero, List.set_cons_succ]
      refine wpAnyH_take (i := 14) (oi := { dst := some 91, op := Op.binOp BinOp.eql 3 (Operand.tmp 90) (Operand.const (Value.int IntKind.i64 0)) 3, type := 4, pos := _, after := #[{ on := 13, ground := Ground.data }, { on := 11, ground := Ground.guard }], guard := some (11, true) }) (v := ?_) rfl (by kernel_rfl) (by kernel_rfl) (by kernel_rfl) (fun _ _ _ h => h) (Or.inl ⟨by rfl, ?_⟩) (by assumption) ?_
      rotate_left
      · intro wt hSw; (try dsimp only at hSw); have s0 := cellB hSw s0 z0; have g0 := cellB hSw g0 z1; have g1 := cellB hSw g1 z1; have g2 := cellB hSw g2 z1; have g3 := cellB hSw g3 z1; have d2 := cellB hSw d2 zb; first | (go_simp; done) | (go_simp; with_reducible rfl) | (trace_state; fail)
      try simp only [Act.put, List.setIfInBounds_toArray, List.set_cons_zero, List.set_cons_succ]
      refine wpAnyH_take (i := 15) (oi := { dst := some 92, op := Op.pick (Operand.tmp 88) (Operand.tmp 91) (Operand.const (Value.bool false)), type := 4, pos := _, after := #[{ on := 11, ground := Ground.data }, { on := 14, ground := Ground.data }], guard := none }) (v := ?_) rfl (by kernel_rfl) (by kernel_rfl) (by kernel_rfl) (fun _ _ _ h => h) (Or.inl ⟨by rfl, ?_⟩) (by assumption) ?_
      rotate_left
      · intro wt hSw; (try dsimp only at hSw); have s0 := cellB hSw s0 z0; have g0 := cellB hSw g0 z1; have g1 := cellB hSw g1 z1; have g2 := cellB hSw g2 z1; have g3 := cellB hSw g3 z1; have d2 := cellB hSw d2 zb; first | (go_simp; done) | (go_simp; with_reducible rfl) | (trace_state; fail)
      try simp only [Act.put, List.setIfInBounds_toArray, List.set_cons_zero, List.set_cons_succ]
      refine wpAnyH_take (i := 16) (oi := { dst := some 93, op := Op.move (Operand.tmp 92), type := 4, pos := _, after := #[{ on := 15, ground := Ground.data }, { on := 11, ground := Ground.chain }], guard := none }) (v := ?_) rfl (by kernel_rfl) (by kernel_rfl) (by kernel_rfl) (fun _ _ _ h => h) (Or.inl ⟨by rfl, ?_⟩) (by assumption) ?_
      rotate_left
      · intro wt hSw; (try dsimp only at hSw); have s0 := cellB hSw s0 z0; have g0 := cellB hSw g0 z1; have g1 := cellB hSw g1 z1; have g2 := cellB hSw g2 z1; have g3 := cellB hSw g3 z1; have d2 := cellB hSw d2 zb; first | (go_simp; done) | (go_simp; with_reducible rfl) | (trace_state; fail)
      try simp only [Act.put, List.setIfInBounds_toArray, List.set_cons_zero, List.set_cons_succ]
      refine wpAnyH_take (i := 17) (oi := { dst := some 94, op := Op.fieldAddr 30 (Operand.tmp 3) 2, type := 0, pos := _, after := #[{ on := 16, ground := Ground.guard }], guard := some (16, true) }) (v := ?_) rfl (by kernel_rfl) (by kernel_rfl) (by kernel_rfl) (fun _ _ _ h => h) (Or.inl ⟨by rfl, ?_⟩) (by assumption) ?_
      rotate_left
      · intro wt hSw; (try dsimp only at hSw); have s0 := cellB hSw s0 z0; have g0 := cellB hSw g0 z1; have g1 := cellB hSw g1 z1; have g2 := cellB hSw g2 z1; have g3 := cellB hSw g3 z1; have d2 := cellB hSw d2 zb; first | (go_simp; done) | (go_simp; with_reducible rfl) | (trace_state; fail)
      try simp only [Act.put, List.setIfInBounds_toArray, List.set_cons_zero, List.set_cons_succ]
      refine wpAnyH_take (i := 18) (oi := { dst := some 95, op := Op.load 3 (Operand.tmp 94), type := 3, pos := _, after := #[{ on := 17, ground := Ground.data }, { on := 16, ground := Ground.guard }], guard := some (16, true) }) (v := ?_) rfl (by kernel_rfl) (by kernel_rfl) (by kernel_rfl) (fun _ _ _ h => h) (Or.inl ⟨by rfl, ?_⟩) (by assumption) ?_
      rotate_left
      · intro wt hSw; (try dsimp only at hSw); have s0 := cellB hSw s0 z0; have g0 := cellB hSw g0 z1; have g1 := cellB hSw g1 z1; have g2 := cellB hSw g2 z1; have g3 := cellB hSw g3 z1; have d2 := cellB hSw d2 zb; first | (go_simp; done) | (go_simp; with_reducible rfl) | (trace_state; fail)
      try simp only [Act.put, List.setIfInBounds_toArray, List.set_cons_zero, List.set_cons_succ]
      refine wpAnyH_take (i := 19) (oi := { dst := some 96, op := Op.binOp BinOp.geq 3 (Operand.tmp 95) (Operand.const (Value.int IntKind.i64 0)) 3, type := 4, pos := _, after := #[{ on := 18, ground := Ground.data }, { on := 16, ground := Ground.guard }], guard := some (16, true) }) (v := ?_) rfl (by kernel_rfl) (by kernel_rfl) (by kernel_rfl) (fun _ _ _ h => h) (Or.inl ⟨by rfl, ?_⟩) (by assumption) ?_
      rotate_left
      · intro wt hSw; (try dsimp only at hSw); have s0 := cellB hSw s0 z0; have g0 := cellB hSw g0 z1; have g1 := cellB hSw g1 z1; have g2 := cellB hSw g2 z1; have g3 := cellB hSw g3 z1; have d2 := cellB hSw d2 zb; first | (go_simp; done) | (go_simp; with_reducible rfl) | (trace_state; fail)
      try simp only [Act.put, List.setIfInBounds_toArray, List.set_cons_zero, List.set_cons_succ]
      refine wpAnyH_take (i := 20) (oi := { dst := some 97, op := Op.pick (Operand.tmp 93) (Operand.tmp 96) (Operand.const (Value.bool false)), type := 4, pos := _, after := #[{ on := 16, ground := Ground.data }, { on := 19, ground := Ground.data }], guard := none }) (v := ?_) rfl (by kernel_rfl) (by kernel_rfl) (by kernel_rfl) (fun _ _ _ h => h) (Or.inl ⟨by rfl, ?_⟩) (by assumption) ?_
      rotate_left
      · intro wt hSw; (try dsimp only at hSw); have s0 := cellB hSw s0 z0; have g0 := cellB hSw g0 z1; have g1 := cellB hSw g1 z1; have g2 := cellB hSw g2 z1; have g3 := cellB hSw g3 z1; have d2 := cellB hSw d2 zb; first | (go_simp; done) | (go_simp; with_reducible rfl) | (trace_state; fail)
      try simp only [Act.put, List.setIfInBounds_toArray, List.set_cons_zero, List.set_cons_succ]
      refine wpAnyH_take (i := 21) (oi := { dst := some 98, op := Op.move (Operand.tmp 97), type := 4, pos := _, after := #[{ on := 20, ground := Ground.data }, { on := 16, ground := Ground.chain }], guard := none }) (v := ?_) rfl (by kernel_rfl) (by kernel_rfl) (by kernel_rfl) (fun _ _ _ h => h) (Or.inl ⟨by rfl, ?_⟩) (by assumption) ?_
      rotate_left
      · intro wt hSw; (try dsimp only at hSw); have s0 := cellB hSw s0 z0; have g0 := cellB hSw g0 z1; have g1 := cellB hSw g1 z1; have g2 := cellB hSw g2 z1; have g3 := cellB hSw g3 z1; have d2 := cellB hSw d2 zb; first | (go_simp; done) | (go_simp; with_reducible rfl) | (trace_state; fail)
      try simp only [Act.put, List.setIfInBounds_toArray, List.set_cons_zero, List.set_cons_succ]
      refine wpAnyH_take (i := 22) (oi := { dst := some 99, op := Op.fieldAddr 30 (Operand.tmp 3) 2, type := 0, pos := _, after := #[{ on := 21, ground := Ground.guard }], guard := some (21, true) }) (v := ?_) rfl (by kernel_rfl) (by kernel_rfl) (by kernel_rfl) (fun _ _ _ h => h) (Or.inl ⟨by rfl, ?_⟩) (by assumption) ?_
      rotate_left
      · intro wt hSw; (try dsimp only at hSw); have s0 := cellB hSw s0 z0; have g0 := cellB hSw g0 z1; have g1 := cellB hSw g1 z1; have g2 := cellB hSw g2 z1; have g3 := cellB hSw g3 z1; have d2 := cellB hSw d2 zb; first | (go_simp; done) | (go_simp; with_reducible rfl) | (trace_state; fail)
      try simp only [Act.put, List.setIfInBounds_toArray, List.set_cons_zero, List.set_cons_succ]
      refine wpAnyH_take (i := 23) (oi := { dst := some 100, op := Op.load 3 (Operand.tmp 99), type := 3, pos := _, after := #[{ on := 22, ground := Ground.data }, { on := 21, ground := Ground.guard }], guard := some (21, true) }) (v := ?_) rfl (by kernel_rfl) (by kernel_rfl) (by kernel_rfl) (fun _ _ _ h => h) (Or.inl ⟨by rfl, ?_⟩) (by assumption) ?_
      rotate_left
      · intro wt hSw; (try dsimp only at hSw); have s0 := cellB hSw s0 z0; have g0 := cellB hSw g0 z1; have g1 := cellB hSw g1 z1; have g2 := cellB hSw g2 z1; have g3 := cellB hSw g3 z1; have d2 := cellB hSw d2 zb; first | (go_simp; done) | (go_simp; with_reducible rfl) | (trace_state; fail)
      try simp only [Act.put, List.setIfInBounds_toArray, List.set_cons_zero, List.set_cons_succ]
      refine wpAnyH_take (i := 24) (oi := { dst := some 101, op := Op.fieldAddr 37 (Operand.tmp 2) 0, type := 0, pos := _, after := #[{ on := 21, ground := Ground.guard }], guard := some (21, true) }) (v := ?_) rfl (by kernel_rfl) (by kernel_rfl) (by kernel_rfl) (fun _ _ _ h => h) (Or.inl ⟨by rfl, ?_⟩) (by assumption) ?_
      rotate_left
      · intro wt hSw; (try dsimp only at hSw); have s0 := cellB hSw s0 z0; have g0 := cellB hSw g0 z1; have g1 := cellB hSw g1 z1; have g2 := cellB hSw g2 z1; have g3 := cellB hSw g3 z1; have d2 := cellB hSw d2 zb; first | (go_simp; done) | (go_simp; with_reducible rfl) | (trace_state; fail)
      try simp only [Act.put, List.setIfInBounds_toArray, List.set_cons_zero, List.set_cons_succ]
      refine wpAnyH_take (i := 25) (oi := { dst := some 102, op := Op.load 23 (Operand.tmp 101), type := 23, pos := _, after := #[{ on := 24, ground := Ground.data }, { on := 21, ground := Ground.guard }], guard := some (21, true) }) (v := ?_) rfl (by kernel_rfl) (by kernel_rfl) (by kernel_rfl) (fun _ _ _ h => h) (Or.inl ⟨by rfl, ?_⟩) (by assumption) ?_
      rotate_left
      · intro wt hSw; (try dsimp only at hSw); have s0 := cellB hSw s0 z0; have g0 := cellB hSw g0 z1; have g1 := cellB hSw g1 z1; have g2 := cellB hSw g2 z1; have g3 := cellB hSw g3 z1; have d2 := cellB hSw d2 zb; first | (go_simp; done) | (go_simp; with_reducible rfl) | (trace_state; fail)
      try simp only [Act.put, List.setIfInBounds_toArray, List.set_cons_zero, List.set_cons_succ]
      refine wpAnyH_take (i := 26) (oi := { dst := some 103, op := Op.call { callee := Callee.builtin Builtin.len, args := #[Operand.tmp 102], argTypes := #[23] }, type := 3, pos := _, after := #[{ on := 25, ground := Ground.data }, { on := 21, ground := Ground.guard }], guard := some (21, true) }) (v := ?_) rfl (by kernel_rfl) (by kernel_rfl) (by kernel_rfl) (fun _ _ _ h => h) (Or.inl ⟨by rfl, ?_⟩) (by assumption) ?_
      rotate_left
      · intro wt hSw; (try dsimp only at hSw); have s0 := cellB hSw s0 z0; have g0 := cellB hSw g0 z1; have g1 := cellB hSw g1 z1; have g2 := cellB hSw g2 z1; have g3 := cellB hSw g3 z1; have d2 := cellB hSw d2 zb; first | (go_simp; done) | (go_simp; with_reducible rfl) | (trace_state; fail)
      try simp only [Act.put, List.setIfInBounds_toArray, List.set_cons_zero, List.set_cons_succ]
      refine wpAnyH_take (i := 27) (oi := { dst := some 104, op := Op.binOp BinOp.lss 3 (Operand.tmp 100) (Operand.tmp 103) 3, type := 4, pos := _, after := #[{ on := 23, ground := Ground.data }, { on := 26, ground := Ground.data }, { on := 21, ground := Ground.guard }], guard := some (21, true) }) (v := ?_) rfl (by kernel_rfl) (by kernel_rfl) (by kernel_rfl) (fun _ _ _ h => h) (Or.inl ⟨by rfl, ?_⟩) (by assumption) ?_
      rotate_left
      · intro wt hSw; (try dsimp only at hSw); have s0 := cellB hSw s0 z0; have g0 := cellB hSw g0 z1; have g1 := cellB hSw g1 z1; have g2 := cellB hSw g2 z1; have g3 := cellB hSw g3 z1; have d2 := cellB hSw d2 zb; first | (go_simp; done) | (go_simp; with_reducible rfl) | (trace_state; fail)
      try simp only [Act.put, List.setIfInBounds_toArray, List.set_cons_zero, List.set_cons_succ]
      refine wpAnyH_take (i := 28) (oi := { dst := some 105, op := Op.pick (Operand.tmp 98) (Operand.tmp 104) (Operand.const (Value.bool false)), type := 4, pos := _, after := #[{ on := 21, ground := Ground.data }, { on := 27, ground := Ground.data }], guard := none }) (v := ?_) rfl (by kernel_rfl) (by kernel_rfl) (by kernel_rfl) (fun _ _ _ h => h) (Or.inl ⟨by rfl, ?_⟩) (by assumption) ?_
      rotate_left
      · intro wt hSw; (try dsimp only at hSw); have s0 := cellB hSw s0 z0; have g0 := cellB hSw g0 z1; have g1 := cellB hSw g1 z1; have g2 := cellB hSw g2 z1; have g3 := cellB hSw g3 z1; have d2 := cellB hSw d2 zb; first | (go_simp; done) | (go_simp; with_reducible rfl) | (trace_state; fail)
      try simp only [Act.put, List.setIfInBounds_toArray, List.set_cons_zero, List.set_cons_succ]
      refine wpAnyH_take (i := 29) (oi := { dst := some 106, op := Op.move (Operand.tmp 105), type := 4, pos := _, after := #[{ on := 28, ground := Ground.data }, { on := 21, ground := Ground.chain }], guard := none }) (v := ?_) rfl (by kernel_rfl) (by kernel_rfl) (by kernel_rfl) (fun _ _ _ h => h) (Or.inl ⟨by rfl, ?_⟩) (by assumption) ?_
      rotate_left
      · intro wt hSw; (try dsimp only at hSw); have s0 := cellB hSw s0 z0; have g0 := cellB hSw g0 z1; have g1 := cellB hSw g1 z1; have g2 := cellB hSw g2 z1; have g3 := cellB hSw g3 z1; have d2 := cellB hSw d2 zb; first | (go_simp; done) | (go_simp; with_reducible rfl) | (trace_state; fail)
      try simp only [Act.put, List.setIfInBounds_toArray, List.set_cons_zero, List.set_cons_succ]
      refine wpAnyH_take (i := 30) (oi := { dst := some 107, op := Op.fieldAddr 37 (Operand.tmp 2) 0, type := 0, pos := _, after := #[{ on := 29, ground := Ground.guard }], guard := some (29, true) }) (v := ?_) rfl (by kernel_rfl) (by kernel_rfl) (by kernel_rfl) (fun _ _ _ h => h) (Or.inl ⟨by rfl, ?_⟩) (by assumption) ?_
      rotate_left
      · intro wt hSw; (try dsimp only at hSw); have s0 := cellB hSw s0 z0; have g0 := cellB hSw g0 z1; have g1 := cellB hSw g1 z1; have g2 := cellB hSw g2 z1; have g3 := cellB hSw g3 z1; have d2 := cellB hSw d2 zb; first | (go_simp; done) | (go_simp; with_reducible rfl) | (trace_state; fail)
      try simp only [Act.put, List.setIfInBounds_toArray, List.set_cons_zero, List.set_cons_succ]
      refine wpAnyH_take (i := 31) (oi := { dst := some 108, op := Op.load 23 (Operand.tmp 107), type := 23, pos := _, after := #[{ on := 30, ground := Ground.data }, { on := 29, ground := Ground.guard }], guard := some (29, true) }) (v := ?_) rfl (by kernel_rfl) (by kernel_rfl) (by kernel_rfl) (fun _ _ _ h => h) (Or.inl ⟨by rfl, ?_⟩) (by assumption) ?_
      rotate_left
      · intro wt hSw; (try dsimp only at hSw); have s0 := cellB hSw s0 z0; have g0 := cellB hSw g0 z1; have g1 := cellB hSw g1 z1; have g2 := cellB hSw g2 z1; have g3 := cellB hSw g3 z1; have d2 := cellB hSw d2 zb; first | (go_simp; done) | (go_simp; with_reducible rfl) | (trace_state; fail)
      try simp only [Act.put, List.setIfInBounds_toArray, List.set_cons_zero, List.set_cons_succ]
      refine wpAnyH_take (i := 32) (oi := { dst := some 109, op := Op.fieldAddr 30 (Operand.tmp 3) 2, type := 0, pos := _, after := #[{ on := 29, ground := Ground.guard }], guard := some (29, true) }) (v := ?_) rfl (by kernel_rfl) (by kernel_rfl) (by kernel_rfl) (fun _ _ _ h => h) (Or.inl ⟨by rfl, ?_⟩) (by assumption) ?_
      rotate_left
      · intro wt hSw; (try dsimp only at hSw); have s0 := cellB hSw s0 z0; have g0 := cellB hSw g0 z1; have g1 := cellB hSw g1 z1; have g2 := cellB hSw g2 z1; have g3 := cellB hSw g3 z1; have d2 := cellB hSw d2 zb; first | (go_simp; done) | (go_simp; with_reducible rfl) | (trace_state; fail)
      try simp only [Act.put, List.setIfInBounds_toArray, List.set_cons_zero, List.set_cons_succ]
      refine wpAnyH_take (i := 33) (oi := { dst := some 110, op := Op.load 3 (Operand.tmp 109), type := 3, pos := _, after := #[{ on := 32, ground := Ground.data }, { on := 29, ground := Ground.guard }], guard := some (29, true) }) (v := ?_) rfl (by kernel_rfl) (by kernel_rfl) (by kernel_rfl) (fun _ _ _ h => h) (Or.inl ⟨by rfl, ?_⟩) (by assumption) ?_
      rotate_left
      · intro wt hSw; (try dsimp only at hSw); have s0 := cellB hSw s0 z0; have g0 := cellB hSw g0 z1; have g1 := cellB hSw g1 z1; have g2 := cellB hSw g2 z1; have g3 := cellB hSw g3 z1; have d2 := cellB hSw d2 zb; first | (go_simp; done) | (go_simp; with_reducible rfl) | (trace_state; fail)
      try simp only [Act.put, List.setIfInBounds_toArray, List.set_cons_zero, List.set_cons_succ]
      refine wpAnyH_take (i := 34) (oi := { dst := some 111, op := Op.indexAddr 23 (Operand.tmp 108) (Operand.tmp 110), type := 0, pos := _, after := #[{ on := 31, ground := Ground.data }, { on := 33, ground := Ground.data }, { on := 29, ground := Ground.guard }], guard := some (29, true) }) (v := ?_) rfl (by kernel_rfl) (by kernel_rfl) (by kernel_rfl) (fun _ _ _ h => h) (Or.inl ⟨by rfl, ?_⟩) (by assumption) ?_
      rotate_left
      · intro wt hSw; (try dsimp only at hSw); have s0 := cellB hSw s0 z0; have g0 := cellB hSw g0 z1; have g1 := cellB hSw g1 z1; have g2 := cellB hSw g2 z1; have g3 := cellB hSw g3 z1; have d2 := cellB hSw d2 zb; first | (go_simp; done) | (go_simp; with_reducible rfl) | (trace_state; fail)
      try simp only [Act.put, List.setIfInBounds_toArray, List.set_cons_zero, List.set_cons_succ]
      refine wpAnyH_take (i := 35) (oi := { dst := some 112, op := Op.fieldAddr 45 (Operand.tmp 111) 2, type := 0, pos := _, after := #[{ on := 34, ground := Ground.data }, { on := 29, ground := Ground.guard }], guard := some (29, true) }) (v := ?_) rfl (by kernel_rfl) (by kernel_rfl) (by kernel_rfl) (fun _ _ _ h => h) (Or.inl ⟨by rfl, ?_⟩) (by assumption) ?_
      rotate_left
      · intro wt hSw; (try dsimp only at hSw); have s0 := cellB hSw s0 z0; have g0 := cellB hSw g0 z1; have g1 := cellB hSw g1 z1; have g2 := cellB hSw g2 z1; have g3 := cellB hSw g3 z1; have d2 := cellB hSw d2 zb; first | (go_simp; done) | (go_simp; with_reducible rfl) | (trace_state; fail)
      try simp only [Act.put, List.setIfInBounds_toArray, List.set_cons_zero, List.set_cons_succ]
      refine wpAnyH_take (i := 36) (oi := { dst := some 113, op := Op.load 3 (Operand.tmp 112), type := 3, pos := _, after := #[{ on := 35, ground := Ground.data }, { on := 29, ground := Ground.guard }], guard := some (29, true) }) (v := ?_) rfl (by kernel_rfl) (by kernel_rfl) (by kernel_rfl) (fun _ _ _ h => h) (Or.inl ⟨by rfl, ?_⟩) (by assumption) ?_
      rotate_left
      · intro wt hSw; (try dsimp only at hSw); have s0 := cellB hSw s0 z0; have g0 := cellB hSw g0 z1; have g1 := cellB hSw g1 z1; have g2 := cellB hSw g2 z1; have g3 := cellB hSw g3 z1; have d2 := cellB hSw d2 zb; first | (go_simp; done) | (go_simp; with_reducible rfl) | (trace_state; fail)
      try simp only [Act.put, List.setIfInBounds_toArray, List.set_cons_zero, List.set_cons_succ]
      refine wpAnyH_take (i := 37) (oi := { dst := some 114, op := Op.binOp BinOp.gtr 3 (Operand.tmp 113) (Operand.const (Value.int IntKind.i64 1)) 3, type := 4, pos := _, after := #[{ on := 36, ground := Ground.data }, { on := 29, ground := Ground.guard }], guard := some (29, true) }) (v := ?_) rfl (by kernel_rfl) (by kernel_rfl) (by kernel_rfl) (fun _ _ _ h => h) (Or.inl ⟨by rfl, ?_⟩) (by assumption) ?_
      rotate_left
      · intro wt hSw; (try dsimp only at hSw); have s0 := cellB hSw s0 z0; have g0 := cellB hSw g0 z1; have g1 := cellB hSw g1 z1; have g2 := cellB hSw g2 z1; have g3 := cellB hSw g3 z1; have d2 := cellB hSw d2 zb; first | (go_simp; done) | (go_simp; with_reducible rfl) | (trace_state; fail)
      try simp only [Act.put, List.setIfInBounds_toArray, List.set_cons_zero, List.set_cons_succ]
      refine wpAnyH_take (i := 38) (oi := { dst := some 115, op := Op.fieldAddr 30 (Operand.tmp 3) 0, type := 0, pos := _, after := #[{ on := 29, ground := Ground.guard }], guard := some (29, true) }) (v := ?_) rfl (by kernel_rfl) (by kernel_rfl) (by kernel_rfl) (fun _ _ _ h => h) (Or.inl ⟨by rfl, ?_⟩) (by assumption) ?_
      rotate_left
      · intro wt hSw; (try dsimp only at hSw); have s0 := cellB hSw s0 z0; have g0 := cellB hSw g0 z1; have g1 := cellB hSw g1 z1; have g2 := cellB hSw g2 z1; have g3 := cellB hSw g3 z1; have d2 := cellB hSw d2 zb; first | (go_simp; done) | (go_simp; with_reducible rfl) | (trace_state; fail)
      try simp only [Act.put, List.setIfInBounds_toArray, List.set_cons_zero, List.set_cons_succ]
      refine wpAnyH_take (i := 39) (oi := { dst := some 116, op := Op.load 3 (Operand.tmp 115), type := 3, pos := _, after := #[{ on := 38, ground := Ground.data }, { on := 29, ground := Ground.guard }], guard := some (29, true) }) (v := ?_) rfl (by kernel_rfl) (by kernel_rfl) (by kernel_rfl) (fun _ _ _ h => h) (Or.inl ⟨by rfl, ?_⟩) (by assumption) ?_
      rotate_left
      · intro wt hSw; (try dsimp only at hSw); have s0 := cellB hSw s0 z0; have g0 := cellB hSw g0 z1; have g1 := cellB hSw g1 z1; have g2 := cellB hSw g2 z1; have g3 := cellB hSw g3 z1; have d2 := cellB hSw d2 zb; first | (go_simp; done) | (go_simp; with_reducible rfl) | (trace_state; fail)
      try simp only [Act.put, List.setIfInBounds_toArray, List.set_cons_zero, List.set_cons_succ]
      refine wpAnyH_take (i := 40) (oi := { dst := some 117, op := Op.binOp BinOp.eql 3 (Operand.tmp 116) (Operand.const (Value.int IntKind.i64 4)) 3, type := 4, pos := _, after := #[{ on := 39, ground := Ground.data }, { on := 29, ground := Ground.guard }], guard := some (29, true) }) (v := ?_) rfl (by kernel_rfl) (by kernel_rfl) (by kernel_rfl) (fun _ _ _ h => h) (Or.inl ⟨by rfl, ?_⟩) (by assumption) ?_
      rotate_left
      · intro wt hSw; (try dsimp only at hSw); have s0 := cellB hSw s0 z0; have g0 := cellB hSw g0 z1; have g1 := cellB hSw g1 z1; have g2 := cellB hSw g2 z1; have g3 := cellB hSw g3 z1; have d2 := cellB hSw d2 zb; first | (go_simp; done) | (go_simp; with_reducible rfl) | (trace_state; fail)
      try simp only [Act.put, List.setIfInBounds_toArray, List.set_cons_zero, List.set_cons_succ]
      refine wpAnyH_take (i := 41) (oi := { dst := some 118, op := Op.binOp BinOp.eql 4 (Operand.tmp 114) (Operand.tmp 117) 4, type := 4, pos := _, after := #[{ on := 37, ground := Ground.data }, { on := 40, ground := Ground.data }, { on := 29, ground := Ground.guard }], guard := some (29, true) }) (v := ?_) rfl (by kernel_rfl) (by kernel_rfl) (by kernel_rfl) (fun _ _ _ h => h) (Or.inl ⟨by rfl, ?_⟩) (by assumption) ?_
      rotate_left
      · intro wt hSw; (try dsimp only at hSw); have s0 := cellB hSw s0 z0; have g0 := cellB hSw g0 z1; have g1 := cellB hSw g1 z1; have g2 := cellB hSw g2 z1; have g3 := cellB hSw g3 z1; have d2 := cellB hSw d2 zb; first | (go_simp; done) | (go_simp; with_reducible rfl) | (trace_state; fail)
      try simp only [Act.put, List.setIfInBounds_toArray, List.set_cons_zero, List.set_cons_succ]
      refine wpAnyH_take (i := 42) (oi := { dst := some 119, op := Op.pick (Operand.tmp 106) (Operand.tmp 118) (Operand.const (Value.bool false)), type := 4, pos := _, after := #[{ on := 29, ground := Ground.data }, { on := 41, ground := Ground.data }], guard := none }) (v := ?_) rfl (by kernel_rfl) (by kernel_rfl) (by kernel_rfl) (fun _ _ _ h => h) (Or.inl ⟨by rfl, ?_⟩) (by assumption) ?_
      rotate_left
      · intro wt hSw; (try dsimp only at hSw); have s0 := cellB hSw s0 z0; have g0 := cellB hSw g0 z1; have g1 := cellB hSw g1 z1; have g2 := cellB hSw g2 z1; have g3 := cellB hSw g3 z1; have d2 := cellB hSw d2 zb; first | (go_simp; done) | (go_simp; with_reducible rfl) | (trace_state; fail)
      try simp only [Act.put, List.setIfInBounds_toArray, List.set_cons_zero, List.set_cons_succ]
      refine wpAnyH_take (i := 43) (oi := { dst := some 120, op := Op.move (Operand.tmp 119), type := 4, pos := _, after := #[{ on := 42, ground := Ground.data }, { on := 29, ground := Ground.chain }], guard := none }) (v := ?_) rfl (by kernel_rfl) (by kernel_rfl) (by kernel_rfl) (fun _ _ _ h => h) (Or.inl ⟨by rfl, ?_⟩) (by assumption) ?_
      rotate_left
      · intro wt hSw; (try dsimp only at hSw); have s0 := cellB hSw s0 z0; have g0 := cellB hSw g0 z1; have g1 := cellB hSw g1 z1; have g2 := cellB hSw g2 z1; have g3 := cellB hSw g3 z1; have d2 := cellB hSw d2 zb; first | (go_simp; done) | (go_simp; with_reducible rfl) | (trace_state; fail)
      try simp only [Act.put, List.setIfInBounds_toArray, List.set_cons_zero, List.set_cons_succ]
      refine wpAnyH_take (i := 44) (oi := { dst := some 121, op := Op.move (Operand.tmp 5), type := 3, pos := _, after := #[{ on := 43, ground := Ground.guard }], guard := some (43, true) }) (v := undef) rfl (by kernel_rfl) (by kernel_rfl) (by kernel_rfl) (fun _ _ _ h => h) (Or.inr ⟨by rfl, rfl⟩) (by assumption) ?_
      try simp only [Act.put, List.setIfInBounds_toArray, List.set_cons_zero, List.set_cons_succ]
      refine wpAnyH_take (i := 45) (oi := { dst := some 122, op := Op.binOp BinOp.eql 3 (Operand.tmp 121) (Operand.const (Value.int IntKind.i64 0)) 3, type := 4, pos := _, after := #[{ on := 44, ground := Ground.data }, { on := 43, ground := Ground.guard }], guard := some (43, true) }) (v := undef) rfl (by kernel_rfl) (by kernel_rfl) (by kernel_rfl) (fun _ _ _ h => h) (Or.inr ⟨by rfl, rfl⟩) (by assumption) ?_
      try simp only [Act.put, List.setIfInBounds_toArray, List.set_cons_zero, List.set_cons_succ]
      refine wpAnyH_take (i := 46) (oi := { dst := some 123, op := Op.move (Operand.tmp 122), type := 4, pos := _, after := #[{ on := 45, ground := Ground.data }, { on := 43, ground := Ground.chain }, { on := 43, ground := Ground.guard }], guard := some (43, true) }) (v := undef) rfl (by kernel_rfl) (by kernel_rfl) (by kernel_rfl) (fun _ _ _ h => h) (Or.inr ⟨by rfl, rfl⟩) (by assumption) ?_
      try simp only [Act.put, List.setIfInBounds_toArray, List.set_cons_zero, List.set_cons_succ]
      refine wpAnyH_take (i := 47) (oi := { dst := some 124, op := Op.move (Operand.tmp 6), type := 3, pos := _, after := #[{ on := 46, ground := Ground.guard }], guard := some (46, false) }) (v := undef) rfl (by kernel_rfl) (by kernel_rfl) (by kernel_rfl) (fun _ _ _ h => h) (Or.inr ⟨by rfl, rfl⟩) (by assumption) ?_
      try simp only [Act.put, List.setIfInBounds_toArray, List.set_cons_zero, List.set_cons_succ]
      refine wpAnyH_take (i := 48) (oi := { dst := some 125, op := Op.binOp BinOp.eql 3 (Operand.tmp 124) (Operand.const (Value.int IntKind.i64 2)) 3, type := 4, pos := _, after := #[{ on := 47, ground := Ground.data }, { on := 46, ground := Ground.guard }], guard := some (46, false) }) (v := undef) rfl (by kernel_rfl) (by kernel_rfl) (by kernel_rfl) (fun _ _ _ h => h) (Or.inr ⟨by rfl, rfl⟩) (by assumption) ?_
      try simp only [Act.put, List.setIfInBounds_toArray, List.set_cons_zero, List.set_cons_succ]
      refine wpAnyH_take (i := 49) (oi := { dst := some 126, op := Op.pick (Operand.tmp 123) (Operand.const (Value.bool true)) (Operand.tmp 125), type := 4, pos := _, after := #[{ on := 46, ground := Ground.data }, { on := 48, ground := Ground.data }, { on := 43, ground := Ground.guard }], guard := some (43, true) }) (v := undef) rfl (by kernel_rfl) (by kernel_rfl) (by kernel_rfl) (fun _ _ _ h => h) (Or.inr ⟨by rfl, rfl⟩) (by assumption) ?_
      try simp only [Act.put, List.setIfInBounds_toArray, List.set_cons_zero, List.set_cons_succ]
      refine wpAnyH_take (i := 50) (oi := { dst := some 127, op := Op.pick (Operand.tmp 120) (Operand.tmp 126) (Operand.const (Value.bool false)), type := 4, pos := _, after := #[{ on := 43, ground := Ground.data }, { on := 49, ground := Ground.data }], guard := none }) (v := ?_) rfl (by kernel_rfl) (by kernel_rfl) (by kernel_rfl) (fun _ _ _ h => h) (Or.inl ⟨by rfl, ?_⟩) (by assumption) ?_
      rotate_left
      · intro wt hSw; (try dsimp only at hSw); have s0 := cellB hSw s0 z0; have g0 := cellB hSw g0 z1; have g1 := cellB hSw g1 z1; have g2 := cellB hSw g2 z1; have g3 := cellB hSw g3 z1; have d2 := cellB hSw d2 zb; first | (go_simp; done) | (go_simp; with_reducible rfl) | (trace_state; fail)
      try simp only [Act.put, List.setIfInBounds_toArray, List.set_cons_zero, List.set_cons_succ]
      refine wpAnyH_done (by kernel_rfl) ?_ _
      have HHw := Lib.hid (HB0.out.trans (hHeld.mono HB0.out.size))
      have s0 := cellB hHeld s0 z0
      have g2 := cellB hHeld g2 z1
      clear hHeld
      go_wp2_with fail
      refine (hK0 _).mono ?_; rintro r w2 ⟨rfl, rfl⟩
      go_wp2_with fail
      go_ret
      exact ⟨by rw [hres.out]; rfl, HHw.out⟩
    have e2 : (1 < xn) = False := eq_false (by omega)
    cases hkr : kRight xt
    · rw [hkr] at hK
      have hres := Lib.hid (show leafT s ⟨2, 0, (k : Int), 0, []⟩ = 0 by rw [HX.out, if_pos h2]; unfold keepR; rw [hkr]; rfl)
      clear hkr h2
      go_enter Tryd.func11, Tryd.ntmps11
      go_upto_region 17 with fail
      rw [← HW0.out]
      refine wp_region_held_drew (S := (fun w' => Below W0.heap.size W0 w')) (by kernel_rfl) ?_ (fun hHeld => ?_)
      · (try dsimp only); first | assumption | exact Below.alloc hHeld hHeld.size _ | exact (Below.refl _ _).drew | exact Below.drew (Below.refl _ _) | exact Below_drewN _ _ _ | exact Below.refl _ _ | (trace_state; fail)
      refine wpAnyH_take (i := 0) (oi := { dst := some 77, op := Op.move (Operand.tmp 5), type := 3, pos := _, after := #[], guard := none }) (v := ?_) rfl (by kernel_rfl) (by kernel_rfl) (by kernel_rfl) (fun _ _ _ h => h) (Or.inl ⟨by rfl, ?_⟩) (by assumption) ?_
      rotate_left
      · intro wt hSw; (try dsimp only at hSw); have s0 := cellB hSw s0 z0; have g0 := cellB hSw g0 z1; have g1 := cellB hSw g1 z1; have g2 := cellB hSw g2 z1; have g3 := cellB hSw g3 z1; have d2 := cellB hSw d2 zb; first | (go_simp; done) | (go_simp; with_reducible rfl) | (trace_state; fail)
      try simp only [Act.put, List.setIfInBounds_toArray, List.set_cons_zero, List.set_cons_succ]
      refine wpAnyH_take (i := 1) (oi := { dst := some 78, op := Op.fieldAddr 30 (Operand.tmp 3) 0, type := 0, pos := _, after := #[], guard := none }) (v := ?_) rfl (by kernel_rfl) (by kernel_rfl) (by kernel_rfl) (fun _ _ _ h => h) (Or.inl ⟨by rfl, ?_⟩) (by assumption) ?_
      rotate_left
      · intro wt hSw; (try dsimp only at hSw); have s0 := cellB hSw s0 z0; have g0 := cellB hSw g0 z1; have g1 := cellB hSw g1 z1; have g2 := cellB hSw g2 z1; have g3 := cellB hSw g3 z1; have d2 := cellB hSw d2 zb; first | (go_simp; done) | (go_simp; with_reducible rfl) | (trace_state; fail)
      try simp only [Act.put, List.setIfInBounds_toArray, List.set_cons_zero, List.set_cons_succ]
      refine wpAnyH_take (i := 2) (oi := { dst := some 79, op := Op.load 3 (Operand.tmp 78), type := 3, pos := _, after := #[{ on := 1, ground := Ground.data }], guard := none }) (v := ?_) rfl (by kernel_rfl) (by kernel_rfl) (by kernel_rfl) (fun _ _ _ h => h) (Or.inl ⟨by rfl, ?_⟩) (by assumption) ?_
      rotate_left
      · intro wt hSw; (try dsimp only at hSw); have s0 := cellB hSw s0 z0; have g0 := cellB hSw g0 z1; have g1 := cellB hSw g1 z1; have g2 := cellB hSw g2 z1; have g3 := cellB hSw g3 z1; have d2 := cellB hSw d2 zb; first | (go_simp; done) | (go_simp; with_reducible rfl) | (trace_state; fail)
      try simp only [Act.put, List.setIfInBounds_toArray, List.set_cons_zero, List.set_cons_succ]
      refine wpAnyH_take (i := 3) (oi := { dst := some 80, op := Op.binOp BinOp.sub 3 (Operand.tmp 79) (Operand.const (Value.int IntKind.i64 2)) 3, type := 3, pos := _, after := #[{ on := 2, ground := Ground.data }], guard := none }) (v := ?_) rfl (by kernel_rfl) (by kernel_rfl) (by kernel_rfl) (fun _ _ _ h => h) (Or.inl ⟨by rfl, ?_⟩) (by assumption) ?_
      rotate_left
      · intro wt hSw; (try dsimp only at hSw); have s0 := cellB hSw s0 z0; have g0 := cellB hSw g0 z1; have g1 := cellB hSw g1 z1; have g2 := cellB hSw g2 z1; have g3 := cellB hSw g3 z1; have d2 := cellB hSw d2 zb; first | (go_simp; done) | (go_simp; with_reducible rfl) | (trace_state; fail)
      try simp only [Act.put, List.setIfInBounds_toArray, List.set_cons_zero, List.set_cons_succ]
      refine wpAnyH_take (i := 4) (oi := { dst := some 81, op := Op.binOp BinOp.quo 3 (Operand.tmp 80) (Operand.const (Value.int IntKind.i64 2)) 3, type := 3, pos := _, after := #[{ on := 3, ground := Ground.data }], guard := none }) (v := ?_) rfl (by kernel_rfl) (by kernel_rfl) (by kernel_rfl) (fun _ _ _ h => h) (Or.inl ⟨by rfl, ?_⟩) (by assumption) ?_
      rotate_left
      · intro wt hSw; (try dsimp only at hSw); have s0 := cellB hSw s0 z0; have g0 := cellB hSw g0 z1; have g1 := cellB hSw g1 z1; have g2 := cellB hSw g2 z1; have g3 := cellB hSw g3 z1; have d2 := cellB hSw d2 zb; first | (go_simp; done) | (go_simp; with_reducible rfl) | (trace_state; fail)
      try simp only [Act.put, List.setIfInBounds_toArray, List.set_cons_zero, List.set_cons_succ]
      refine wpAnyH_take (i := 5) (oi := { dst := some 82, op := Op.binOp BinOp.eql 3 (Operand.tmp 77) (Operand.tmp 81) 3, type := 4, pos := _, after := #[{ on := 0, ground := Ground.data }, { on := 4, ground := Ground.data }], guard := none }) (v := ?_) rfl (by kernel_rfl) (by kernel_rfl) (by kernel_rfl) (fun _ _ _ h => h) (Or.inl ⟨by rfl, ?_⟩) (by assumption) ?_
      rotate_left
      · intro wt hSw; (try dsimp only at hSw); have s0 := cellB hSw s0 z0; have g0 := cellB hSw g0 z1; have g1 := cellB hSw g1 z1; have g2 := cellB hSw g2 z1; have g3 := cellB hSw g3 z1; have d2 := cellB hSw d2 zb; first | (go_simp; done) | (go_simp; with_reducible rfl) | (trace_state; fail)
      try simp only [Act.put, List.setIfInBounds_toArray, List.set_cons_zero, List.set_cons_succ]
      refine wpAnyH_take (i := 6) (oi := { dst := some 83, op := Op.move (Operand.tmp 82), type := 4, pos := _, after := #[{ on := 5, ground := Ground.data }], guard := none }) (v := ?_) rfl (by kernel_rfl) (by kernel_rfl) (by kernel_rfl) (fun _ _ _ h => h) (Or.inl ⟨by rfl, ?_⟩) (by assumption) ?_
      rotate_left
      · intro wt hSw; (try dsimp only at hSw); have s0 := cellB hSw s0 z0; have g0 := cellB hSw g0 z1; have g1 := cellB hSw g1 z1; have g2 := cellB hSw g2 z1; have g3 := cellB hSw g3 z1; have d2 := cellB hSw d2 zb; first | (go_simp; done) | (go_simp; with_reducible rfl) | (trace_state; fail)
      try simp only [Act.put, List.setIfInBounds_toArray, List.set_cons_zero, List.set_cons_succ]
      refine wpAnyH_take (i := 7) (oi := { dst := some 84, op := Op.fieldAddr 30 (Operand.tmp 3) 1, type := 0, pos := _, after := #[{ on := 6, ground := Ground.guard }], guard := some (6, true) }) (v := ?_) rfl (by kernel_rfl) (by kernel_rfl) (by kernel_rfl) (fun _ _ _ h => h) (Or.inl ⟨by rfl, ?_⟩) (by assumption) ?_
      rotate_left
      · intro wt hSw; (try dsimp only at hSw); have s0 := cellB hSw s0 z0; have g0 := cellB hSw g0 z1; have g1 := cellB hSw g1 z1; have g2 := cellB hSw g2 z1; have g3 := cellB hSw g3 z1; have d2 := cellB hSw d2 zb; first | (go_simp; done) | (go_simp; with_reducible rfl) | (trace_state; fail)
      try simp only [Act.put, List.setIfInBounds_toArray, List.set_cons_zero, List.set_cons_succ]
      refine wpAnyH_take (i := 8) (oi := { dst := some 85, op := Op.load 3 (Operand.tmp 84), type := 3, pos := _, after := #[{ on := 7, ground := Ground.data }, { on := 6, ground := Ground.guard }], guard := some (6, true) }) (v := ?_) rfl (by kernel_rfl) (by kernel_rfl) (by kernel_rfl) (fun _ _ _ h => h) (Or.inl ⟨by rfl, ?_⟩) (by assumption) ?_
      rotate_left
      · intro wt hSw; (try dsimp only at hSw); have s0 := cellB hSw s0 z0; have g0 := cellB hSw g0 z1; have g1 := cellB hSw g1 z1; have g2 := cellB hSw g2 z1; have g3 := cellB hSw g3 z1; have d2 := cellB hSw d2 zb; first | (go_simp; done) | (go_simp; with_reducible rfl) | (trace_state; fail)
      try simp only [Act.put, List.setIfInBounds_toArray, List.set_cons_zero, List.set_cons_succ]
      refine wpAnyH_take (i := 9) (oi := { dst := some 86, op := Op.binOp BinOp.eql 3 (Operand.tmp 85) (Operand.const (Value.int IntKind.i64 0)) 3, type := 4, pos := _, after := #[{ on := 8, ground := Ground.data }, { on := 6, ground := Ground.guard }], guard := some (6, true) }) (v := ?_) rfl (by kernel_rfl) (by kernel_rfl) (by kernel_rfl) (fun _ _ _ h => h) (Or.inl ⟨by rfl, ?_⟩) (by assumption) ?_
      rotate_left
      · intro wt hSw; (try dsimp only at hSw); have s0 := cellB hSw s0 z0; have g0 := cellB hSw g0 z1; have g1 := cellB hSw g1 z1; have g2 := cellB hSw g2 z1; have g3 := cellB hSw g3 z1; have d2 := cellB hSw d2 zb; first | (go_simp; done) | (go_simp; with_reducible rfl) | (trace_state; fail)
      try simp only [Act.put, List.setIfInBounds_toArray, List.set_cons_zero, List.set_cons_succ]
      refine wpAnyH_take (i := 10) (oi := { dst := some 87, op := Op.pick (Operand.tmp 83) (Operand.tmp 86) (Operand.const (Value.bool false)), type := 4, pos := _, after := #[{ on := 6, ground := Ground.data }, { on := 9, ground := Ground.data }], guard := none }) (v := ?_) rfl (by kernel_rfl) (by kernel_rfl) (by kernel_rfl) (fun _ _ _ h => h) (Or.inl ⟨by rfl, ?_⟩) (by assumption) ?_
      rotate_left
      · intro wt hSw; (try dsimp only at hSw); have s0 := cellB hSw s0 z0; have g0 := cellB hSw g0 z1; have g1 := cellB hSw g1 z1; have g2 := cellB hSw g2 z1; have g3 := cellB hSw g3 z1; have d2 := cellB hSw d2 zb; first | (go_simp; done) | (go_simp; with_reducible rfl) | (trace_state; fail)
      try simp only [Act.put, List.setIfInBounds_toArray, List.set_cons_zero, List.set_cons_succ]
      refine wpAnyH_take (i := 11) (oi := { dst := some 88, op := Op.move (Operand.tmp 87), type := 4, pos := _, after := #[{ on := 10, ground := Ground.data }, { on := 6, ground := Ground.chain }], guard := none }) (v := ?_) rfl (by kernel_rfl) (by kernel_rfl) (by kernel_rfl) (fun _ _ _ h => h) (Or.inl ⟨by rfl, ?_⟩) (by assumption) ?_
      rotate_left
      · intro wt hSw; (try dsimp only at hSw); have s0 := cellB hSw s0 z0; have g0 := cellB hSw g0 z1; have g1 := cellB hSw g1 z1; have g2 := cellB hSw g2 z1; have g3 := cellB hSw g3 z1; have d2 := cellB hSw d2 zb; first | (go_simp; done) | (go_simp; with_reducible rfl) | (trace_state; fail)
      try simp only [Act.put, List.setIfInBounds_toArray, List.set_cons_zero, List.set_cons_succ]
      refine wpAnyH_take (i := 12) (oi := { dst := some 89, op := Op.fieldAddr 30 (Operand.tmp 3) 3, type := 0, pos := _, after := #[{ on := 11, ground := Ground.guard }], guard := some (11, true) }) (v := ?_) rfl (by kernel_rfl) (by kernel_rfl) (by kernel_rfl) (fun _ _ _ h => h) (Or.inl ⟨by rfl, ?_⟩) (by assumption) ?_
      rotate_left
      · intro wt hSw; (try dsimp only at hSw); have s0 := cellB hSw s0 z0; have g0 := cellB hSw g0 z1; have g1 := cellB hSw g1 z1; have g2 := cellB hSw g2 z1; have g3 := cellB hSw g3 z1; have d2 := cellB hSw d2 zb; first | (go_simp; done) | (go_simp; with_reducible rfl) | (trace_state; fail)
      try simp only [Act.put, List.setIfInBounds_toArray, List.set_cons_zero, List.set_cons_succ]
      refine wpAnyH_take (i := 13) (oi := { dst := some 90, op := Op.load 3 (Operand.tmp 89), type := 3, pos := _, after := #[{ on := 12, ground := Ground.data }, { on := 11, ground := Ground.guard }], guard := some (11, true) }) (v := ?_) rfl (by kernel_rfl) (by kernel_rfl) (by kernel_rfl) (fun _ _ _ h => h) (Or.inl ⟨by rfl, ?_⟩) (by assumption) ?_
      rotate_left
      · intro wt hSw; (try dsimp only at hSw); have s0 := cellB hSw s0 z0; have g0 := cellB hSw g0 z1; have g1 := cellB hSw g1 z1; have g2 := cellB hSw g2 z1; have g3 := cellB hSw g3 z1; have d2 := cellB hSw d2 zb; first | (go_simp; done) | (go_simp; with_reducible rfl) | (trace_state; fail)
      try simp only [Act.put, List.setIfInBounds_toArray, List.set_cons_zero, List.set_cons_succ]
      refine wpAnyH_take (i := 14) (oi := { dst := some 91, op := Op.binOp BinOp.eql 3 (Operand.tmp 90) (Operand.const (Value.int IntKind.i64 0)) 3, type := 4, pos := _, after := #[{ on := 13, ground := Ground.data }, { on := 11, ground := Ground.guard }], guard := some (11, true) }) (v := ?_) rfl (by kernel_rfl) (by kernel_rfl) (by kernel_rfl) (fun _ _ _ h => h) (Or.inl ⟨by rfl, ?_⟩) (by assumption) ?_
      rotate_left
      · intro wt hSw; (try dsimp only at hSw); have s0 := cellB hSw s0 z0; have g0 := cellB hSw g0 z1; have g1 := cellB hSw g1 z1; have g2 := cellB hSw g2 z1; have g3 := cellB hSw g3 z1; have d2 := cellB hSw d2 zb; first | (go_simp; done) | (go_simp; with_reducible rfl) | (trace_state; fail)
      try simp only [Act.put, List.setIfInBounds_toArray, List.set_cons_zero, List.set_cons_succ]
      refine wpAnyH_take (i := 15) (oi := { dst := some 92, op := Op.pick (Operand.tmp 88) (Operand.tmp 91) (Operand.const (Value.bool false)), type := 4, pos := _, after := #[{ on := 11, ground := Ground.data }, { on := 14, ground := Ground.data }], guard := none }) (v := ?_) rfl (by kernel_rfl) (by kernel_rfl) (by kernel_rfl) (fun _ _ _ h => h) (Or.inl ⟨by rfl, ?_⟩) (by assumption) ?_
      rotate_left
      · intro wt hSw; (try dsimp only at hSw); have s0 := cellB hSw s0 z0; have g0 := cellB hSw g0 z1; have g1 := cellB hSw g1 z1; have g2 := cellB hSw g2 z1; have g3 := cellB hSw g3 z1; have d2 := cellB hSw d2 zb; first | (go_simp; done) | (go_simp; with_reducible rfl) | (trace_state; fail)
      try simp only [Act.put, List.setIfInBounds_toArray, List.set_cons_zero, List.set_cons_succ]
      refine wpAnyH_take (i := 16) (oi := { dst := some 93, op := Op.move (Operand.tmp 92), type := 4, pos := _, after := #[{ on := 15, ground := Ground.data }, { on := 11, ground := Ground.chain }], guard := none }) (v := ?_) rfl (by kernel_rfl) (by kernel_rfl) (by kernel_rfl) (fun _ _ _ h => h) (Or.inl ⟨by rfl, ?_⟩) (by assumption) ?_
      rotate_left
      · intro wt hSw; (try dsimp only at hSw); have s0 := cellB hSw s0 z0; have g0 := cellB hSw g0 z1; have g1 := cellB hSw g1 z1; have g2 := cellB hSw g2 z1; have g3 := cellB hSw g3 z1; have d2 := cellB hSw d2 zb; first | (go_simp; done) | (go_simp; with_reducible rfl) | (trace_state; fail)
      try simp only [Act.put, List.setIfInBounds_toArray, List.set_cons_zero, List.set_cons_succ]
      refine wpAnyH_take (i := 17) (oi := { dst := some 94, op := Op.fieldAddr 30 (Operand.tmp 3) 2, type := 0, pos := _, after := #[{ on := 16, ground := Ground.guard }], guard := some (16, true) }) (v := ?_) rfl (by kernel_rfl) (by kernel_rfl) (by kernel_rfl) (fun _ _ _ h => h) (Or.inl ⟨by rfl, ?_⟩) (by assumption) ?_
      rotate_left
      · intro wt hSw; (try dsimp only at hSw); have s0 := cellB hSw s0 z0; have g0 := cellB hSw g0 z1; have g1 := cellB hSw g1 z1; have g2 := cellB hSw g2 z1; have g3 := cellB hSw g3 z1; have d2 := cellB hSw d2 zb; first | (go_simp; done) | (go_simp; with_reducible rfl) | (trace_state; fail)
      try simp only [Act.put, List.setIfInBounds_toArray, List.set_cons_zero, List.set_cons_succ]
      refine wpAnyH_take (i := 18) (oi := { dst := some 95, op := Op.load 3 (Operand.tmp 94), type := 3, pos := _, after := #[{ on := 17, ground := Ground.data }, { on := 16, ground := Ground.guard }], guard := some (16, true) }) (v := ?_) rfl (by kernel_rfl) (by kernel_rfl) (by kernel_rfl) (fun _ _ _ h => h) (Or.inl ⟨by rfl, ?_⟩) (by assumption) ?_
      rotate_left
      · intro wt hSw; (try dsimp only at hSw); have s0 := cellB hSw s0 z0; have g0 := cellB hSw g0 z1; have g1 := cellB hSw g1 z1; have g2 := cellB hSw g2 z1; have g3 := cellB hSw g3 z1; have d2 := cellB hSw d2 zb; first | (go_simp; done) | (go_simp; with_reducible rfl) | (trace_state; fail)
      try simp only [Act.put, List.setIfInBounds_toArray, List.set_cons_zero, List.set_cons_succ]
      refine wpAnyH_take (i := 19) (oi := { dst := some 96, op := Op.binOp BinOp.geq 3 (Operand.tmp 95) (Operand.const (Value.int IntKind.i64 0)) 3, type := 4, pos := _, after := #[{ on := 18, ground := Ground.data }, { on := 16, ground := Ground.guard }], guard := some (16, true) }) (v := ?_) rfl (by kernel_rfl) (by kernel_rfl) (by kernel_rfl) (fun _ _ _ h => h) (Or.inl ⟨by rfl, ?_⟩) (by assumption) ?_
      rotate_left
      · intro wt hSw; (try dsimp only at hSw); have s0 := cellB hSw s0 z0; have g0 := cellB hSw g0 z1; have g1 := cellB hSw g1 z1; have g2 := cellB hSw g2 z1; have g3 := cellB hSw g3 z1; have d2 := cellB hSw d2 zb; first | (go_simp; done) | (go_simp; with_reducible rfl) | (trace_state; fail)
      try simp only [Act.put, List.setIfInBounds_toArray, List.set_cons_zero, List.set_cons_succ]
      refine wpAnyH_take (i := 20) (oi := { dst := some 97, op := Op.pick (Operand.tmp 93) (Operand.tmp 96) (Operand.const (Value.bool false)), type := 4, pos := _, after := #[{ on := 16, ground := Ground.data }, { on := 19, ground := Ground.data }], guard := none }) (v := ?_) rfl (by kernel_rfl) (by kernel_rfl) (by kernel_rfl) (fun _ _ _ h => h) (Or.inl ⟨by rfl, ?_⟩) (by assumption) ?_
      rotate_left
      · intro wt hSw; (try dsimp only at hSw); have s0 := cellB hSw s0 z0; have g0 := cellB hSw g0 z1; have g1 := cellB hSw g1 z1; have g2 := cellB hSw g2 z1; have g3 := cellB hSw g3 z1; have d2 := cellB hSw d2 zb; first | (go_simp; done) | (go_simp; with_reducible rfl) | (trace_state; fail)
      try simp only [Act.put, List.setIfInBounds_toArray, List.set_cons_zero, List.set_cons_succ]
      refine wpAnyH_take (i := 21) (oi := { dst := some 98, op := Op.move (Operand.tmp 97), type := 4, pos := _, after := #[{ on := 20, ground := Ground.data }, { on := 16, ground := Ground.chain }], guard := none }) (v := ?_) rfl (by kernel_rfl) (by kernel_rfl) (by kernel_rfl) (fun _ _ _ h => h) (Or.inl ⟨by rfl, ?_⟩) (by assumption) ?_
      rotate_left
      · intro wt hSw; (try dsimp only at hSw); have s0 := cellB hSw s0 z0; have g0 := cellB hSw g0 z1; have g1 := cellB hSw g1 z1; have g2 := cellB hSw g2 z1; have g3 := cellB hSw g3 z1; have d2 := cellB hSw d2 zb; first | (go_simp; done) | (go_simp; with_reducible rfl) | (trace_state; fail)
      try simp only [Act.put, List.setIfInBounds_toArray, List.set_cons_zero, List.set_cons_succ]
      refine wpAnyH_take (i := 22) (oi := { dst := some 99, op := Op.fieldAddr 30 (Operand.tmp 3) 2, type := 0, pos := _, after := #[{ on := 21, ground := Ground.guard }], guard := some (21, true) }) (v := ?_) rfl (by kernel_rfl) (by kernel_rfl) (by kernel_rfl) (fun _ _ _ h => h) (Or.inl ⟨by rfl, ?_⟩) (by assumption) ?_
      rotate_left
      · intro wt hSw; (try dsimp only at hSw); have s0 := cellB hSw s0 z0; have g0 := cellB hSw g0 z1; have g1 := cellB hSw g1 z1; have g2 := cellB hSw g2 z1; have g3 := cellB hSw g3 z1; have d2 := cellB hSw d2 zb; first | (go_simp; done) | (go_simp; with_reducible rfl) | (trace_state; fail)
      try simp only [Act.put, List.setIfInBounds_toArray, List.set_cons_zero, List.set_cons_succ]
      refine wpAnyH_take (i := 23) (oi := { dst := some 100, op := Op.load 3 (Operand.tmp 99), type := 3, pos := _, after := #[{ on := 22, ground := Ground.data }, { on := 21, ground := Ground.guard }], guard := some (21, true) }) (v := ?_) rfl (by kernel_rfl) (by kernel_rfl) (by kernel_rfl) (fun _ _ _ h => h) (Or.inl ⟨by rfl, ?_⟩) (by assumption) ?_
      rotate_left
      · intro wt hSw; (try dsimp only at hSw); have s0 := cellB hSw s0 z0; have g0 := cellB hSw g0 z1; have g1 := cellB hSw g1 z1; have g2 := cellB hSw g2 z1; have g3 := cellB hSw g3 z1; have d2 := cellB hSw d2 zb; first | (go_simp; done) | (go_simp; with_reducible rfl) | (trace_state; fail)
      try simp only [Act.put, List.setIfInBounds_toArray, List.set_cons_zero, List.set_cons_succ]
      refine wpAnyH_take (i := 24) (oi := { dst := some 101, op := Op.fieldAddr 37 (Operand.tmp 2) 0, type := 0, pos := _, after := #[{ on := 21, ground := Ground.guard }], guard := some (21, true) }) (v := ?_) rfl (by kernel_rfl) (by kernel_rfl) (by kernel_rfl) (fun _ _ _ h => h) (Or.inl ⟨by rfl, ?_⟩) (by assumption) ?_
      rotate_left
      · intro wt hSw; (try dsimp only at hSw); have s0 := cellB hSw s0 z0; have g0 := cellB hSw g0 z1; have g1 := cellB hSw g1 z1; have g2 := cellB hSw g2 z1; have g3 := cellB hSw g3 z1; have d2 := cellB hSw d2 zb; first | (go_simp; done) | (go_simp; with_reducible rfl) | (trace_state; fail)
      try simp only [Act.put, List.setIfInBounds_toArray, List.set_cons_zero, List.set_cons_succ]
      refine wpAnyH_take (i := 25) (oi := { dst := some 102, op := Op.load 23 (Operand.tmp 101), type := 23, pos := _, after := #[{ on := 24, ground := Ground.data }, { on := 21, ground := Ground.guard }], guard := some (21, true) }) (v := ?_) rfl (by kernel_rfl) (by kernel_rfl) (by kernel_rfl) (fun _ _ _ h => h) (Or.inl ⟨by rfl, ?_⟩) (by assumption) ?_
      rotate_left
      · intro wt hSw; (try dsimp only at hSw); have s0 := cellB hSw s0 z0; have g0 := cellB hSw g0 z1; have g1 := cellB hSw g1 z1; have g2 := cellB hSw g2 z1; have g3 := cellB hSw g3 z1; have d2 := cellB hSw d2 zb; first | (go_simp; done) | (go_simp; with_reducible rfl) | (trace_state; fail)
      try simp only [Act.put, List.setIfInBounds_toArray, List.set_cons_zero, List.set_cons_succ]
      refine wpAnyH_take (i := 26) (oi := { dst := some 103, op := Op.call { callee := Callee.builtin Builtin.len, args := #[Operand.tmp 102], argTypes := #[23] }, type := 3, pos := _, after := #[{ on := 25, ground := Ground.data }, { on := 21, ground := Ground.guard }], guard := some (21, true) }) (v := ?_) rfl (by kernel_rfl) (by kernel_rfl) (by kernel_rfl) (fun _ _ _ h => h) (Or.inl ⟨by rfl, ?_⟩) (by assumption) ?_
      rotate_left
      · intro wt hSw; (try dsimp only at hSw); have s0 := cellB hSw s0 z0; have g0 := cellB hSw g0 z1; have g1 := cellB hSw g1 z1; have g2 := cellB hSw g2 z1; have g3 := cellB hSw g3 z1; have d2 := cellB hSw d2 zb; first | (go_simp; done) | (go_simp; with_reducible rfl) | (trace_state; fail)
      try simp only [Act.put, List.setIfInBounds_toArray, List.set_cons_zero, List.set_cons_succ]
      refine wpAnyH_take (i := 27) (oi := { dst := some 104, op := Op.binOp BinOp.lss 3 (Operand.tmp 100) (Operand.tmp 103) 3, type := 4, pos := _, after := #[{ on := 23, ground := Ground.data }, { on := 26, ground := Ground.data }, { on := 21, ground := Ground.guard }], guard := some (21, true) }) (v := ?_) rfl (by kernel_rfl) (by kernel_rfl) (by kernel_rfl) (fun _ _ _ h => h) (Or.inl ⟨by rfl, ?_⟩) (by assumption) ?_
      rotate_left
      · intro wt hSw; (try dsimp only at hSw); have s0 := cellB hSw s0 z0; have g0 := cellB hSw g0 z1; have g1 := cellB hSw g1 z1; have g2 := cellB hSw g2 z1; have g3 := cellB hSw g3 z1; have d2 := cellB hSw d2 zb; first | (go_simp; done) | (go_simp; with_reducible rfl) | (trace_state; fail)
      try simp only [Act.put, List.setIfInBounds_toArray, List.set_cons_zero, List.set_cons_succ]
      refine wpAnyH_take (i := 28) (oi := { dst := some 105, op := Op.pick (Operand.tmp 98) (Operand.tmp 104) (Operand.const (Value.bool false)), type := 4, pos := _, after := #[{ on := 21, ground := Ground.data }, { on := 27, ground := Ground.data }], guard := none }) (v := ?_) rfl (by kernel_rfl) (by kernel_rfl) (by kernel_rfl) (fun _ _ _ h => h) (Or.inl ⟨by rfl, ?_⟩) (by assumption) ?_
      rotate_left
      · intro wt hSw; (try dsimp only at hSw); have s0 := cellB hSw s0 z0; have g0 := cellB hSw g0 z1; have g1 := cellB hSw g1 z1; have g2 := cellB hSw g2 z1; have g3 := cellB hSw g3 z1; have d2 := cellB hSw d2 zb; first | (go_simp; done) | (go_simp; with_reducible rfl) | (trace_state; fail)
      try simp only [Act.put, List.setIfInBounds_toArray, List.set_cons_zero, List.set_cons_succ]
      refine wpAnyH_take (i := 29) (oi := { dst := some 106, op := Op.move (Operand.tmp 105), type := 4, pos := _, after := #[{ on := 28, ground := Ground.data }, { on := 21, ground := Ground.chain }], guard := none }) (v := ?_) rfl (by kernel_rfl) (by kernel_rfl) (by kernel_rfl) (fun _ _ _ h => h) (Or.inl ⟨by rfl, ?_⟩) (by assumption) ?_
      rotate_left
      · intro wt hSw; (try dsimp only at hSw); have s0 := cellB hSw s0 z0; have g0 := cellB hSw g0 z1; have g1 := cellB hSw g1 z1; have g2 := cellB hSw g2 z1; have g3 := cellB hSw g3 z1; have d2 := cellB hSw d2 zb; first | (go_simp; done) | (go_simp; with_reducible rfl) | (trace_state; fail)
      try simp only [Act.put, List.setIfInBounds_toArray, List.set_cons_zero, List.set_cons_succ]
      refine wpAnyH_take (i := 30) (oi := { dst := some 107, op := Op.fieldAddr 37 (Operand.tmp 2) 0, type := 0, pos := _, after := #[{ on := 29, ground := Ground.guard }], guard := some (29, true) }) (v := ?_) rfl (by kernel_rfl) (by kernel_rfl) (by kernel_rfl) (fun _ _ _ h => h) (Or.inl ⟨by rfl, ?_⟩) (by assumption) ?_
      rotate_left
      · intro wt hSw; (try dsimp only at hSw); have s0 := cellB hSw s0 z0; have g0 := cellB hSw g0 z1; have g1 := cellB hSw g1 z1; have g2 := cellB hSw g2 z1; have g3 := cellB hSw g3 z1; have d2 := cellB hSw d2 zb; first | (go_simp; done) | (go_simp; with_reducible rfl) | (trace_state; fail)
      try simp only [Act.put, List.setIfInBounds_toArray, List.set_cons_zero, List.set_cons_succ]
      refine wpAnyH_take (i := 31) (oi := { dst := some 108, op := Op.load 23 (Operand.tmp 107), type := 23, pos := _, after := #[{ on := 30, ground := Ground.data }, { on := 29, ground := Ground.guard }], guard := some (29, true) }) (v := ?_) rfl (by kernel_rfl) (by kernel_rfl) (by kernel_rfl) (fun _ _ _ h => h) (Or.inl ⟨by rfl, ?_⟩) (by assumption) ?_
      rotate_left
      · intro wt hSw; (try dsimp only at hSw); have s0 := cellB hSw s0 z0; have g0 := cellB hSw g0 z1; have g1 := cellB hSw g1 z1; have g2 := cellB hSw g2 z1; have g3 := cellB hSw g3 z1; have d2 := cellB hSw d2 zb; first | (go_simp; done) | (go_simp; with_reducible rfl) | (trace_state; fail)
      try simp only [Act.put, List.setIfInBounds_toArray, List.set_cons_zero, List.set_cons_succ]
      refine wpAnyH_take (i := 32) (oi := { dst := some 109, op := Op.fieldAddr 30 (Operand.tmp 3) 2, type := 0, pos := _, after := #[{ on := 29, ground := Ground.guard }], guard := some (29, true) }) (v := ?_) rfl (by kernel_rfl) (by kernel_rfl) (by kernel_rfl) (fun _ _ _ h => h) (Or.inl ⟨by rfl, ?_⟩) (by assumption) ?_
      rotate_left
      · intro wt hSw; (try dsimp only at hSw); have s0 := cellB hSw s0 z0; have g0 := cellB hSw g0 z1; have g1 := cellB hSw g1 z1; have g2 := cellB hSw g2 z1; have g3 := cellB hSw g3 z1; have d2 := cellB hSw d2 zb; first | (go_simp; done) | (go_simp; with_reducible rfl) | (trace_state; fail)
      try simp only [Act.put, List.setIfInBounds_toArray, List.set_cons_zero, List.set_cons_succ]
      refine wpAnyH_take (i := 33) (oi := { dst := some 110, op := Op.load 3 (Operand.tmp 109), type := 3, pos := _, after := #[{ on := 32, ground := Ground.data }, { on := 29, ground := Ground.guard }], guard := some (29, true) }) (v := ?_) rfl (by kernel_rfl) (by kernel_rfl) (by kernel_rfl) (fun _ _ _ h => h) (Or.inl ⟨by rfl, ?_⟩) (by assumption) ?_
      rotate_left
      · intro wt hSw; (try dsimp only at hSw); have s0 := cellB hSw s0 z0; have g0 := cellB hSw g0 z1; have g1 := cellB hSw g1 z1; have g2 := cellB hSw g2 z1; have g3 := cellB hSw g3 z1; have d2 := cellB hSw d2 zb; first | (go_simp; done) | (go_simp; with_reducible rfl) | (trace_state; fail)
      try simp only [Act.put, List.setIfInBounds_toArray, List.set_cons_zero, List.set_cons_succ]
      refine wpAnyH_take (i := 34) (oi := { dst := some 111, op := Op.indexAddr 23 (Operand.tmp 108) (Operand.tmp 110), type := 0, pos := _, after := #[{ on := 31, ground := Ground.data }, { on := 33, ground := Ground.data }, { on := 29, ground := Ground.guard }], guard := some (29, true) }) (v := ?_) rfl (by kernel_rfl) (by kernel_rfl) (by kernel_rfl) (fun _ _ _ h => h) (Or.inl ⟨by rfl, ?_⟩) (by assumption) ?_
      rotate_left
      · intro wt hSw; (try dsimp only at hSw); have s0 := cellB hSw s0 z0; have g0 := cellB hSw g0 z1; have g1 := cellB hSw g1 z1; have g2 := cellB hSw g2 z1; have g3 := cellB hSw g3 z1; have d2 := cellB hSw d2 zb; first | (go_simp; done) | (go_simp; with_reducible rfl) | (trace_state; fail)
      try simp only [Act.put, List.setIfInBounds_toArray, List.set_cons_zero, List.set_cons_succ]
      refine wpAnyH_take (i := 35) (oi := { dst := some 112, op := Op.fieldAddr 45 (Operand.tmp 111) 2, type := 0, pos := _, after := #[{ on := 34, ground := Ground.data }, { on := 29, ground := Ground.guard }], guard := some (29, true) }) (v := ?_) rfl (by kernel_rfl) (by kernel_rfl) (by kernel_rfl) (fun _ _ _ h => h) (Or.inl ⟨by rfl, ?_⟩) (by assumption) ?_
      rotate_left
      · intro wt hSw; (try dsimp only at hSw); have s0 := cellB hSw s0 z0; have g0 := cellB hSw g0 z1; have g1 := cellB hSw g1 z1; have g2 := cellB hSw g2 z1; have g3 := cellB hSw g3 z1; have d2 := cellB hSw d2 zb; first | (go_simp; done) | (go_simp; with_reducible rfl) | (trace_state; fail)
      try simp only [Act.put, List.setIfInBounds_toArray, List.set_cons_zero, List.set_cons_succ]
      refine wpAnyH_take (i := 36) (oi := { dst := some 113, op := Op.load 3 (Operand.tmp 112), type := 3, pos := _, after := #[{ on := 35, ground := Ground.data }, { on := 29, ground := Ground.guard }], guard := some (29, true) }) (v := ?_) rfl (by kernel_rfl) (by kernel_rfl) (by kernel_rfl) (fun _ _ _ h => h) (Or.inl ⟨by rfl, ?_⟩) (by assumption) ?_
      rotate_left
      · intro wt hSw; (try dsimp only at hSw); have s0 := cellB hSw s0 z0; have g0 := cellB hSw g0 z1; have g1 := cellB hSw g1 z1; have g2 := cellB hSw g2 z1; have g3 := cellB hSw g3 z1; have d2 := cellB hSw d2 zb; first | (go_simp; done) | (go_simp; with_reducible rfl) | (trace_state; fail)
      try simp only [Act.put, List.setIfInBounds_toArray, List.set_cons_zero, List.set_cons_succ]
      refine wpAnyH_take (i := 37) (oi := { dst := some 114, op := Op.binOp BinOp.gtr 3 (Operand.tmp 113) (Operand.const (Value.int IntKind.i64 1)) 3, type := 4, pos := _, after := #[{ on := 36, ground := Ground.data }, { on := 29, ground := Ground.guard }], guard := some (29, true) }) (v := ?_) rfl (by kernel_rfl) (by kernel_rfl) (by kernel_rfl) (fun _ _ _ h => h) (Or.inl ⟨by rfl, ?_⟩) (by assumption) ?_
      rotate_left
      · intro wt hSw; (try dsimp only at hSw); have s0 := cellB hSw s0 z0; have g0 := cellB hSw g0 z1; have g1 := cellB hSw g1 z1; have g2 := cellB hSw g2 z1; have g3 := cellB hSw g3 z1; have d2 := cellB hSw d2 zb; first | (go_simp; done) | (go_simp; with_reducible rfl) | (trace_state; fail)
      try simp only [Act.put, List.setIfInBounds_toArray, List.set_cons_zero, List.set_cons_succ]
      refine wpAnyH_take (i := 38) (oi := { dst := some 115, op := Op.fieldAddr 30 (Operand.tmp 3) 0, type := 0, pos := _, after := #[{ on := 29, ground := Ground.guard }], guard := some (29, true) }) (v := ?_) rfl (by kernel_rfl) (by kernel_rfl) (by kernel_rfl) (fun _ _ _ h => h) (Or.inl ⟨by rfl, ?_⟩) (by assumption) ?_
      rotate_left
      · intro wt hSw; (try dsimp only at hSw); have s0 := cellB hSw s0 z0; have g0 := cellB hSw g0 z1; have g1 := cellB hSw g1 z1; have g2 := cellB hSw g2 z1; have g3 := cellB hSw g3 z1; have d2 := cellB hSw d2 zb; first | (go_simp; done) | (go_simp; with_reducible rfl) | (trace_state; fail)
      try simp only [Act.put, List.setIfInBounds_toArray, List.set_cons_zero, List.set_cons_succ]
      refine wpAnyH_take (i := 39) (oi := { dst := some 116, op := Op.load 3 (Operand.tmp 115), type := 3, pos := _, after := #[{ on := 38, ground := Ground.data }, { on := 29, ground := Ground.guard }], guard := some (29, true) }) (v := ?_) rfl (by kernel_rfl) (by kernel_rfl) (by kernel_rfl) (fun _ _ _ h => h) (Or.inl ⟨by rfl, ?_⟩) (by assumption) ?_
      rotate_left
      · intro wt hSw; (try dsimp only at hSw); have s0 := cellB hSw s0 z0; have g0 := cellB hSw g0 z1; have g1 := cellB hSw g1 z1; have g2 := cellB hSw g2 z1; have g3 := cellB hSw g3 z1; have d2 := cellB hSw d2 zb; first | (go_simp; done) | (go_simp; with_reducible rfl) | (trace_state; fail)
      try simp only [Act.put, List.setIfInBounds_toArray, List.set_cons_zero, List.set_cons_succ]
      refine wpAnyH_take (i := 40) (oi := { dst := some 117, op := Op.binOp BinOp.eql 3 (Operand.tmp 116) (Operand.const (Value.int IntKind.i64 4)) 3, type := 4, pos := _, after := #[{ on := 39, ground := Ground.data }, { on := 29, ground := Ground.guard }], guard := some (29, true) }) (v := ?_) rfl (by kernel_rfl) (by kernel_rfl) (by kernel_rfl) (fun _ _ _ h => h) (Or.inl ⟨by rfl, ?_⟩) (by assumption) ?_
      rotate_left
      · intro wt hSw; (try dsimp only at hSw); have s0 := cellB hSw s0 z0; have g0 := cellB hSw g0 z1; have g1 := cellB hSw g1 z1; have g2 := cellB hSw g2 z1; have g3 := cellB hSw g3 z1; have d2 := cellB hSw d2 zb; first | (go_simp; done) | (go_simp; with_reducible rfl) | (trace_state; fail)
      try simp only [Act.put, List.setIfInBounds_toArray, List.set_cons_zero, List.set_cons_succ]
      refine wpAnyH_take (i := 41) (oi := { dst := some 118, op := Op.binOp BinOp.eql 4 (Operand.tmp 114) (Operand.tmp 117) 4, type := 4, pos := _, after := #[{ on := 37, ground := Ground.data }, { on := 40, ground := Ground.data }, { on := 29, ground := Ground.guard }], guard := some (29, true) }) (v := ?_) rfl (by kernel_rfl) (by kernel_rfl) (by kernel_rfl) (fun _ _ _ h => h) (Or.inl ⟨by rfl, ?_⟩) (by assumption) ?_
      rotate_left
      · intro wt hSw; (try dsimp only at hSw); have s0 := cellB hSw s0 z0; have g0 := cellB hSw g0 z1; have g1 := cellB hSw g1 z1; have g2 := cellB hSw g2 z1; have g3 := cellB hSw g3 z1; have d2 := cellB hSw d2 zb; first | (go_simp; done) | (go_simp; with_reducible rfl) | (trace_state; fail)
      try simp only [Act.put, List.setIfInBounds_toArray, List.set_cons_zero, List.set_cons_succ]
      refine wpAnyH_take (i := 42) (oi := { dst := some 119, op := Op.pick (Operand.tmp 106) (Operand.tmp 118) (Operand.const (Value.bool false)), type := 4, pos := _, after := #[{ on := 29, ground := Ground.data }, { on := 41, ground := Ground.data }], guard := none }) (v := ?_) rfl (by kernel_rfl) (by kernel_rfl) (by kernel_rfl) (fun _ _ _ h => h) (Or.inl ⟨by rfl, ?_⟩) (by assumption) ?_
      rotate_left
      · intro wt hSw; (try dsimp only at hSw); have s0 := cellB hSw s0 z0; have g0 := cellB hSw g0 z1; have g1 := cellB hSw g1 z1; have g2 := cellB hSw g2 z1; have g3 := cellB hSw g3 z1; have d2 := cellB hSw d2 zb; first | (go_simp; done) | (go_simp; with_reducible rfl) | (trace_state; fail)
      try simp only [Act.put, List.setIfInBounds_toArray, List.set_cons_zero, List.set_cons_succ]
      refine wpAnyH_take (i := 43) (oi := { dst := some 120, op := Op.move (Operand.tmp 119), type := 4, pos := _, after := #[{ on := 42, ground := Ground.data }, { on := 29, ground := Ground.chain }], guard := none }) (v := ?_) rfl (by kernel_rfl) (by kernel_rfl) (by kernel_rfl) (fun _ _ _ h => h) (Or.inl ⟨by rfl, ?_⟩) (by assumption) ?_
      rotate_left
      · intro wt hSw; (try dsimp only at hSw); have s0 := cellB hSw s0 z0; have g0 := cellB hSw g0 z1; have g1 := cellB hSw g1 z1; have g2 := cellB hSw g2 z1; have g3 := cellB hSw g3 z1; have d2 := cellB hSw d2 zb; first | (go_simp; done) | (go_simp; with_reducible rfl) | (trace_state; fail)
      try simp only [Act.put, List.setIfInBounds_toArray, List.set_cons_zero, List.set_cons_succ]
      refine wpAnyH_take (i := 44) (oi := { dst := some 121, op := Op.move (Operand.tmp 5), type := 3, pos := _, after := #[{ on := 43, ground := Ground.guard }], guard := some (43, true) }) (v := ?_) rfl (by kernel_rfl) (by kernel_rfl) (by kernel_rfl) (fun _ _ _ h => h) (Or.inl ⟨by rfl, ?_⟩) (by assumption) ?_
      rotate_left
      · intro wt hSw; (try dsimp only at hSw); have s0 := cellB hSw s0 z0; have g0 := cellB hSw g0 z1; have g1 := cellB hSw g1 z1; have g2 := cellB hSw g2 z1; have g3 := cellB hSw g3 z1; have d2 := cellB hSw d2 zb; first | (go_simp; done) | (go_simp; with_reducible rfl) | (trace_state; fail)
      try simp only [Act.put, List.setIfInBounds_toArray, List.set_cons_zero, List.set_cons_succ]
      refine wpAnyH_take (i := 45) (oi := { dst := some 122, op := Op.binOp BinOp.eql 3 (Operand.tmp 121) (Operand.const (Value.int IntKind.i64 0)) 3, type := 4, pos := _, after := #[{ on := 44, ground := Ground.data }, { on := 43, ground := Ground.guard }], guard := some (43, true) }) (v := ?_) rfl (by kernel_rfl) (by kernel_rfl) (by kernel_rfl) (fun _ _ _ h => h) (Or.inl ⟨by rfl, ?_⟩) (by assumption) ?_
      rotate_left
      · intro wt hSw; (try dsimp only at hSw); have s0 := cellB hSw s0 z0; have g0 := cellB hSw g0 z1; have g1 := cellB hSw g1 z1; have g2 := cellB hSw g2 z1; have g3 := cellB hSw g3 z1; have d2 := cellB hSw d2 zb; first | (go_simp; done) | (go_simp; with_reducible rfl) | (trace_state; fail)
      try simp only [Act.put, List.setIfInBounds_toArray, List.set_cons_zero, List.set_cons_succ]
      refine wpAnyH_take (i := 46) (oi := { dst := some 123, op := Op.move (Operand.tmp 122), type := 4, pos := _, after := #[{ on := 45, ground := Ground.data }, { on := 43, ground := Ground.chain }, { on := 43, ground := Ground.guard }], guard := some (43, true) }) (v := ?_) rfl (by kernel_rfl) (by kernel_rfl) (by kernel_rfl) (fun _ _ _ h => h) (Or.inl ⟨by rfl, ?_⟩) (by assumption) ?_
      rotate_left
      · intro wt hSw; (try dsimp only at hSw); have s0 := cellB hSw s0 z0; have g0 := cellB hSw g0 z1; have g1 := cellB hSw g1 z1; have g2 := cellB hSw g2 z1; have g3 := cellB hSw g3 z1; have d2 := cellB hSw d2 zb; first | (go_simp; done) | (go_simp; with_reducible rfl) | (trace_state; fail)
      try simp only [Act.put, List.setIfInBounds_toArray, List.set_cons_zero, List.set_cons_succ]
      refine wpAnyH_take (i := 47) (oi := { dst := some 124, op := Op.move (Operand.tmp 6), type := 3, pos := _, after := #[{ on := 46, ground := Ground.guard }], guard := some (46, false) }) (v := undef) rfl (by kernel_rfl) (by kernel_rfl) (by kernel_rfl) (fun _ _ _ h => h) (Or.inr ⟨by rfl, rfl⟩) (by assumption) ?_
      try simp only [Act.put, List.setIfInBounds_toArray, List.set_cons_zero, List.set_cons_succ]
      refine wpAnyH_take (i := 48) (oi := { dst := some 125, op := Op.binOp BinOp.eql 3 (Operand.tmp 124) (Operand.const (Value.int IntKind.i64 2)) 3, type := 4, pos := _, after := #[{ on := 47, ground := Ground.data }, { on := 46, ground := Ground.guard }], guard := some (46, false) }) (v := undef) rfl (by kernel_rfl) (by kernel_rfl) (by kernel_rfl) (fun _ _ _ h => h) (Or.inr ⟨by rfl, rfl⟩) (by assumption) ?_
      try simp only [Act.put, List.setIfInBounds_toArray, List.set_cons_zero, List.set_cons_succ]
      refine wpAnyH_take (i := 49) (oi := { dst := some 126, op := Op.pick (Operand.tmp 123) (Operand.const (Value.bool true)) (Operand.tmp 125), type := 4, pos := _, after := #[{ on := 46, ground := Ground.data }, { on := 48, ground := Ground.data }, { on := 43, ground := Ground.guard }], guard := some (43, true) }) (v := ?_) rfl (by kernel_rfl) (by kernel_rfl) (by kernel_rfl) (fun _ _ _ h => h) (Or.inl ⟨by rfl, ?_⟩) (by assumption) ?_
      rotate_left
      · intro wt hSw; (try dsimp only at hSw); have s0 := cellB hSw s0 z0; have g0 := cellB hSw g0 z1; have g1 := cellB hSw g1 z1; have g2 := cellB hSw g2 z1; have g3 := cellB hSw g3 z1; have d2 := cellB hSw d2 zb; first | (go_simp; done) | (go_simp; with_reducible rfl) | (trace_state; fail)
      try simp only [Act.put, List.setIfInBounds_toArray, List.set_cons_zero, List.set_cons_succ]
      refine wpAnyH_take (i := 50) (oi := { dst := some 127, op := Op.pick (Operand.tmp 120) (Operand.tmp 126) (Operand.const (Value.bool false)), type := 4, pos := _, after := #[{ on := 43, ground := Ground.data }, { on := 49, ground := Ground.data }], guard := none }) (v := ?_) rfl (by kernel_rfl) (by kernel_rfl) (by kernel_rfl) (fun _ _ _ h => h) (Or.inl ⟨by rfl, ?_⟩) (by assumption) ?_
      rotate_left
      · intro wt hSw; (try dsimp only at hSw); have s0 := cellB hSw s0 z0; have g0 := cellB hSw g0 z1; have g1 := cellB hSw g1 z1; have g2 := cellB hSw g2 z1; have g3 := cellB hSw g3 z1; have d2 := cellB hSw d2 zb; first | (go_simp; done) | (go_simp; with_reducible rfl) | (trace_state; fail)
      try simp only [Act.put, List.setIfInBounds_toArray, List.set_cons_zero, List.set_cons_succ]
      refine wpAnyH_done (by kernel_rfl) ?_ _
      have HHw := Lib.hid (HB0.out.trans (hHeld.mono HB0.out.size))
      have s0 := cellB hHeld s0 z0
      have g2 := cellB hHeld g2 z1
      have d1 := cellB hHeld d1 zb
      clear hHeld
      go_wp2_with fail
      refine (hK _).mono ?_; rintro r w2 ⟨rfl, rfl⟩
      go_wp2_with fail
      go_ret
      exact ⟨by rw [hres.out]; rfl, HHw.out⟩
    · rw [hkr] at hK
      have hres := Lib.hid (show leafT s ⟨2, 0, (k : Int), 0, []⟩ = xt by rw [HX.out, if_pos h2]; unfold keepR; rw [hkr]; rfl)
      clear hkr h2
      go_enter Tryd.func11, Tryd.ntmps11
      go_upto_region 17 with fail
      rw [← HW0.out]
      refine wp_region_held_drew (S := (fun w' => Below W0.heap.size W0 w')) (by kernel_rfl) ?_ (fun hHeld => ?_)
      · (try dsimp only); first | assumption | exact Below.alloc hHeld hHeld.size _ | exact (Below.refl _ _).drew | exact Below.drew (Below.refl _ _) | exact Below_drewN _ _ _ | exact Below.refl _ _ | (trace_state; fail)
      refine wpAnyH_take (i := 0) (oi := { dst := some 77, op := Op.move (Operand.tmp 5), type := 3, pos := _, after := #[], guard := none }) (v := ?_) rfl (by kernel_rfl) (by kernel_rfl) (by kernel_rfl) (fun _ _ _ h => h) (Or.inl ⟨by rfl, ?_⟩) (by assumption) ?_
      rotate_left
      · intro wt hSw; (try dsimp only at hSw); have s0 := cellB hSw s0 z0; have g0 := cellB hSw g0 z1; have g1 := cellB hSw g1 z1; have g2 := cellB hSw g2 z1; have g3 := cellB hSw g3 z1; have d2 := cellB hSw d2 zb; first | (go_simp; done) | (go_simp; with_reducible rfl) | (trace_state; fail)
      try simp only [Act.put, List.setIfInBounds_toArray, List.set_cons_zero, List.set_cons_succ]
      refine wpAnyH_take (i := 1) (oi := { dst := some 78, op := Op.fieldAddr 30 (Operand.tmp 3) 0, type := 0, pos := _, after := #[], guard := none }) (v := ?_) rfl (by kernel_rfl) (by kernel_rfl) (by kernel_rfl) (fun _ _ _ h => h) (Or.inl ⟨by rfl, ?_⟩) (by assumption) ?_
      rotate_left
      · intro wt hSw; (try dsimp only at hSw); have s0 := cellB hSw s0 z0; have g0 := cellB hSw g0 z1; have g1 := cellB hSw g1 z1; have g2 := cellB hSw g2 z1; have g3 := cellB hSw g3 z1; have d2 := cellB hSw d2 zb; first | (go_simp; done) | (go_simp; with_reducible rfl) | (trace_state; fail)
      try simp only [Act.put, List.setIfInBounds_toArray, List.set_cons_zero, List.set_cons_succ]
      refine wpAnyH_take (i := 2) (oi := { dst := some 79, op := Op.load 3 (Operand.tmp 78), type := 3, pos := _, after := #[{ on := 1, ground := Ground.data }], guard := none }) (v := ?_) rfl (by kernel_rfl) (by kernel_rfl) (by kernel_rfl) (fun _ _ _ h => h) (Or.inl ⟨by rfl, ?_⟩) (by assumption) ?_
      rotate_left
      · intro wt hSw; (try dsimp only at hSw); have s0 := cellB hSw s0 z0; have g0 := cellB hSw g0 z1; have g1 := cellB hSw g1 z1; have g2 := cellB hSw g2 z1; have g3 := cellB hSw g3 z1; have d2 := cellB hSw d2 zb; first | (go_simp; done) | (go_simp; with_reducible rfl) | (trace_state; fail)
      try simp only [Act.put, List.setIfInBounds_toArray, List.set_cons_zero, List.set_cons_succ]
      refine wpAnyH_take (i := 3) (oi := { dst := some 80, op := Op.binOp BinOp.sub 3 (Operand.tmp 79) (Operand.const (Value.int IntKind.i64 2)) 3, type := 3, pos := _, after := #[{ on := 2, ground := Ground.data }], guard := none }) (v := ?_) rfl (by kernel_rfl) (by kernel_rfl) (by kernel_rfl) (fun _ _ _ h => h) (Or.inl ⟨by rfl, ?_⟩) (by assumption) ?_
      rotate_left
      · intro wt hSw; (try dsimp only at hSw); have s0 := cellB hSw s0 z0; have g0 := cellB hSw g0 z1; have g1 := cellB hSw g1 z1; have g2 := cellB hSw g2 z1; have g3 := cellB hSw g3 z1; have d2 := cellB hSw d2 zb; first | (go_simp; done) | (go_simp; with_reducible rfl) | (trace_state; fail)
      try simp only [Act.put, List.setIfInBounds_toArray, List.set_cons_zero, List.set_cons_succ]
      refine wpAnyH_take (i := 4) (oi := { dst := some 81, op := Op.binOp BinOp.quo 3 (Operand.tmp 80) (Operand.const (Value.int IntKind.i64 2)) 3, type := 3, pos := _, after := #[{ on := 3, ground := Ground.data }], guard := none }) (v := ?_) rfl (by kernel_rfl) (by kernel_rfl) (by kernel_rfl) (fun _ _ _ h => h) (Or.inl ⟨by rfl, ?_⟩) (by assumption) ?_
      rotate_left
      · intro wt hSw; (try dsimp only at hSw); have s0 := cellB hSw s0 z0; have g0 := cellB hSw g0 z1; have g1 := cellB hSw g1 z1; have g2 := cellB hSw g2 z1; have g3 := cellB hSw g3 z1; have d2 := cellB hSw d2 zb; first | (go_simp; done) | (go_simp; with_reducible rfl) | (trace_state; fail)
      try simp only [Act.put, List.setIfInBounds_toArray, List.set_cons_zero, List.set_cons_succ]
      refine wpAnyH_take (i := 5) (oi := { dst := some 82, op := Op.binOp BinOp.eql 3 (Operand.tmp 77) (Operand.tmp 81) 3, type := 4, pos := _, after := #[{ on := 0, ground := Ground.data }, { on := 4, ground := Ground.data }], guard := none }) (v := ?_) rfl (by kernel_rfl) (by kernel_rfl) (by kernel_rfl) (fun _ _ _ h => h) (Or.inl ⟨by rfl, ?_⟩) (by assumption) ?_
      rotate_left
      · intro wt hSw; (try dsimp only at hSw); have s0 := cellB hSw s0 z0; have g0 := cellB hSw g0 z1; have g1 := cellB hSw g1 z1; have g2 := cellB hSw g2 z1; have g3 := cellB hSw g3 z1; have d2 := cellB hSw d2 zb; first | (go_simp; done) | (go_simp; with_reducible rfl) | (trace_state; fail)
      try simp only [Act.put, List.setIfInBounds_toArray, List.set_cons_zero, List.set_cons_succ]
      refine wpAnyH_take (i := 6) (oi := { dst := some 83, op := Op.move (Operand.tmp 82), type := 4, pos := _, after := #[{ on := 5, ground := Ground.data }], guard := none }) (v := ?_) rfl (by kernel_rfl) (by kernel_rfl) (by kernel_rfl) (fun _ _ _ h => h) (Or.inl ⟨by rfl, ?_⟩) (by assumption) ?_
      rotate_left
      · intro wt hSw; (try dsimp only at hSw); have s0 := cellB hSw s0 z0; have g0 := cellB hSw g0 z1; have g1 := cellB hSw g1 z1; have g2 := cellB hSw g2 z1; have g3 := cellB hSw g3 z1; have d2 := cellB hSw d2 zb; first | (go_simp; done) | (go_simp; with_reducible rfl) | (trace_state; fail)
      try simp only [Act.put, List.setIfInBounds_toArray, List.set_cons_zero, List.set_cons_succ]
      refine wpAnyH_take (i := 7) (oi := { dst := some 84, op := Op.fieldAddr 30 (Operand.tmp 3) 1, type := 0, pos := _, after := #[{ on := 6, ground := Ground.guard }], guard := some (6, true) }) (v := ?_) rfl (by kernel_rfl) (by kernel_rfl) (by kernel_rfl) (fun _ _ _ h => h) (Or.inl ⟨by rfl, ?_⟩) (by assumption) ?_
      rotate_left
      · intro wt hSw; (try dsimp only at hSw); have s0 := cellB hSw s0 z0; have g0 := cellB hSw g0 z1; have g1 := cellB hSw g1 z1; have g2 := cellB hSw g2 z1; have g3 := cellB hSw g3 z1; have d2 := cellB hSw d2 zb; first | (go_simp; done) | (go_simp; with_reducible rfl) | (trace_state; fail)
      try simp only [Act.put, List.setIfInBounds_toArray, List.set_cons_zero, List.set_cons_succ]
      refine wpAnyH_take (i := 8) (oi := { dst := some 85, op := Op.load 3 (Operand.tmp 84), type := 3, pos := _, after := #[{ on := 7, ground := Ground.data }, { on := 6, ground := Ground.guard }], guard := some (6, true) }) (v := ?_) rfl (by kernel_rfl) (by kernel_rfl) (by kernel_rfl) (fun _ _ _ h => h) (Or.inl ⟨by rfl, ?_⟩) (by assumption) ?_
      rotate_left
      · intro wt hSw; (try dsimp only at hSw); have s0 := cellB hSw s0 z0; have g0 := cellB hSw g0 z1; have g1 := cellB hSw g1 z1; have g2 := cellB hSw g2 z1; have g3 := cellB hSw g3 z1; have d2 := cellB hSw d2 zb; first | (go_simp; done) | (go_simp; with_reducible rfl) | (trace_state; fail)
      try simp only [Act.put, List.setIfInBounds_toArray, List.set_cons_zero, List.set_cons_succ]
      refine wpAnyH_take (i := 9) (oi := { dst := some 86, op := Op.binOp BinOp.eql 3 (Operand.tmp 85) (Operand.const (Value.int IntKind.i64 0)) 3, type := 4, pos := _, after := #[{ on := 8, ground := Ground.data }, { on := 6, ground := Ground.guard }], guard := some (6, true) }) (v := ?_) rfl (by kernel_rfl) (by kernel_rfl) (by kernel_rfl) (fun _ _ _ h => h) (Or.inl ⟨by rfl, ?_⟩) (by assumption) ?_
      rotate_left
      · intro wt hSw; (try dsimp only at hSw); have s0 := cellB hSw s0 z0; have g0 := cellB hSw g0 z1; have g1 := cellB hSw g1 z1; have g2 := cellB hSw g2 z1; have g3 := cellB hSw g3 z1; have d2 := cellB hSw d2 zb; first | (go_simp; done) | (go_simp; with_reducible rfl) | (trace_state; fail)
      try simp only [Act.put, List.setIfInBounds_toArray, List.set_cons_zero, List.set_cons_succ]
      refine wpAnyH_take (i := 10) (oi := { dst := some 87, op := Op.pick (Operand.tmp 83) (Operand.tmp 86) (Operand.const (Value.bool false)), type := 4, pos := _, after := #[{ on := 6, ground := Ground.data }, { on := 9, ground := Ground.data }], guard := none }) (v := ?_) rfl (by kernel_rfl) (by kernel_rfl) (by kernel_rfl) (fun _ _ _ h => h) (Or.inl ⟨by rfl, ?_⟩) (by assumption) ?_
      rotate_left
      · intro wt hSw; (try dsimp only at hSw); have s0 := cellB hSw s0 z0; have g0 := cellB hSw g0 z1; have g1 := cellB hSw g1 z1; have g2 := cellB hSw g2 z1; have g3 := cellB hSw g3 z1; have d2 := cellB hSw d2 zb; first | (go_simp; done) | (go_simp; with_reducible rfl) | (trace_state; fail)
      try simp only [Act.put, List.setIfInBounds_toArray, List.set_cons_zero, List.set_cons_succ]
      refine wpAnyH_take (i := 11) (oi := { dst := some 88, op := Op.move (Operand.tmp 87), type := 4, pos := _, after := #[{ on := 10, ground := Ground.data }, { on := 6, ground := Ground.chain }], guard := none }) (v := ?_) rfl (by kernel_rfl) (by kernel_rfl) (by kernel_rfl) (fun _ _ _ h => h) (Or.inl ⟨by rfl, ?_⟩) (by assumption) ?_
      rotate_left
      · intro wt hSw; (try dsimp only at hSw); have s0 := cellB hSw s0 z0; have g0 := cellB hSw g0 z1; have g1 := cellB hSw g1 z1; have g2 := cellB hSw g2 z1; have g3 := cellB hSw g3 z1; have d2 := cellB hSw d2 zb; first | (go_simp; done) | (go_simp; with_reducible rfl) | (trace_state; fail)
      try simp only [Act.put, List.setIfInBounds_toArray, List.set_cons_zero, List.set_cons_succ]
      refine wpAnyH_take (i := 12) (oi := { dst := some 89, op := Op.fieldAddr 30 (Operand.tmp 3) 3, type := 0, pos := _, after := #[{ on := 11, ground := Ground.guard }], guard := some (11, true) }) (v := ?_) rfl (by kernel_rfl) (by kernel_rfl) (by kernel_rfl) (fun _ _ _ h => h) (Or.inl ⟨by rfl, ?_⟩) (by assumption) ?_
      rotate_left
      · intro wt hSw; (try dsimp only at hSw); have s0 := cellB hSw s0 z0; have g0 := cellB hSw g0 z1; have g1 := cellB hSw g1 z1; have g2 := cellB hSw g2 z1; have g3 := cellB hSw g3 z1; have d2 := cellB hSw d2 zb; first | (go_simp; done) | (go_simp; with_reducible rfl) | (trace_state; fail)
      try simp only [Act.put, List.setIfInBounds_toArray, List.set_cons_zero, List.set_cons_succ]
      refine wpAnyH_take (i := 13) (oi := { dst := some 90, op := Op.load 3 (Operand.tmp 89), type := 3, pos := _, after := #[{ on := 12, ground := Ground.data }, { on := 11, ground := Ground.guard }], guard := some (11, true) }) (v := ?_) rfl (by kernel_rfl) (by kernel_rfl) (by kernel_rfl) (fun _ _ _ h => h) (Or.inl ⟨by rfl, ?_⟩) (by assumption) ?_
      rotate_left
      · intro wt hSw; (try dsimp only at hSw); have s0 := cellB hSw s0 z0; have g0 := cellB hSw g0 z1; have g1 := cellB hSw g1 z1; have g2 := cellB hSw g2 z1; have g3 := cellB hSw g3 z1; have d2 := cellB hSw d2 zb; first | (go_simp; done) | (go_simp; with_reducible rfl) | (trace_state; fail)
      try simp only [Act.put, List.setIfInBounds_toArray, List.set_cons_zero, List.set_cons_succ]
      refine wpAnyH_take (i := 14) (oi := { dst := some 91, op := Op.binOp BinOp.eql 3 (Operand.tmp 90) (Operand.const (Value.int IntKind.i64 0)) 3, type := 4, pos := _, after := #[{ on := 13, ground := Ground.data }, { on := 11, ground := Ground.guard }], guard := some (11, true) }) (v := ?_) rfl (by kernel_rfl) (by kernel_rfl) (by kernel_rfl) (fun _ _ _ h => h) (Or.inl ⟨by rfl, ?_⟩) (by assumption) ?_
      rotate_left
      · intro wt hSw; (try dsimp only at hSw); have s0 := cellB hSw s0 z0; have g0 := cellB hSw g0 z1; have g1 := cellB hSw g1 z1; have g2 := cellB hSw g2 z1; have g3 := cellB hSw g3 z1; have d2 := cellB hSw d2 zb; first | (go_simp; done) | (go_simp; with_reducible rfl) | (trace_state; fail)
      try simp only [Act.put, List.setIfInBounds_toArray, List.set_cons_zero, List.set_cons_succ]
      refine wpAnyH_take (i := 15) (oi := { dst := some 92, op := Op.pick (Operand.tmp 88) (Operand.tmp 91) (Operand.const (Value.bool false)), type := 4, pos := _, after := #[{ on := 11, ground := Ground.data }, { on := 14, ground := Ground.data }], guard := none }) (v := ?_) rfl (by kernel_rfl) (by kernel_rfl) (by kernel_rfl) (fun _ _ _ h => h) (Or.inl ⟨by rfl, ?_⟩) (by assumption) ?_
      rotate_left
      · intro wt hSw; (try dsimp only at hSw); have s0 := cellB hSw s0 z0; have g0 := cellB hSw g0 z1; have g1 := cellB hSw g1 z1; have g2 := cellB hSw g2 z1; have g3 := cellB hSw g3 z1; have d2 := cellB hSw d2 zb; first | (go_simp; done) | (go_simp; with_reducible rfl) | (trace_state; fail)
      try simp only [Act.put, List.setIfInBounds_toArray, List.set_cons_zero, List.set_cons_succ]
      refine wpAnyH_take (i := 16) (oi := { dst := some 93, op := Op.move (Operand.tmp 92), type := 4, pos := _, after := #[{ on := 15, ground := Ground.data }, { on := 11, ground := Ground.chain }], guard := none }) (v := ?_) rfl (by kernel_rfl) (by kernel_rfl) (by kernel_rfl) (fun _ _ _ h => h) (Or.inl ⟨by rfl, ?_⟩) (by assumption) ?_
      rotate_left
      · intro wt hSw; (try dsimp only at hSw); have s0 := cellB hSw s0 z0; have g0 := cellB hSw g0 z1; have g1 := cellB hSw g1 z1; have g2 := cellB hSw g2 z1; have g3 := cellB hSw g3 z1; have d2 := cellB hSw d2 zb; first | (go_simp; done) | (go_simp; with_reducible rfl) | (trace_state; fail)
      try simp only [Act.put, List.setIfInBounds_toArray, List.set_cons_zero, List.set_cons_succ]
      refine wpAnyH_take (i := 17) (oi := { dst := some 94, op := Op.fieldAddr 30 (Operand.tmp 3) 2, type := 0, pos := _, after := #[{ on := 16, ground := Ground.guard }], guard := some (16, true) }) (v := ?_) rfl (by kernel_rfl) (by kernel_rfl) (by kernel_rfl) (fun _ _ _ h => h) (Or.inl ⟨by rfl, ?_⟩) (by assumption) ?_
      rotate_left
      · intro wt hSw; (try dsimp only at hSw); have s0 := cellB hSw s0 z0; have g0 := cellB hSw g0 z1; have g1 := cellB hSw g1 z1; have g2 := cellB hSw g2 z1; have g3 := cellB hSw g3 z1; have d2 := cellB hSw d2 zb; first | (go_simp; done) | (go_simp; with_reducible rfl) | (trace_state; fail)
      try simp only [Act.put, List.setIfInBounds_toArray, List.set_cons_zero, List.set_cons_succ]
      refine wpAnyH_take (i := 18) (oi := { dst := some 95, op := Op.load 3 (Operand.tmp 94), type := 3, pos := _, after := #[{ on := 17, ground := Ground.data }, { on := 16, ground := Ground.guard }], guard := some (16, true) }) (v := ?_) rfl (by kernel_rfl) (by kernel_rfl) (by kernel_rfl) (fun _ _ _ h => h) (Or.inl ⟨by rfl, ?_⟩) (by assumption) ?_
      rotate_left
      · intro wt hSw; (try dsimp only at hSw); have s0 := cellB hSw s0 z0; have g0 := cellB hSw g0 z1; have g1 := cellB hSw g1 z1; have g2 := cellB hSw g2 z1; have g3 := cellB hSw g3 z1; have d2 := cellB hSw d2 zb; first | (go_simp; done) | (go_simp; with_reducible rfl) | (trace_state; fail)
      try simp only [Act.put, List.setIfInBounds_toArray, List.set_cons_zero, List.set_cons_succ]
      refine wpAnyH_take (i := 19) (oi := { dst := some 96, op := Op.binOp BinOp.geq 3 (Operand.tmp 95) (Operand.const (Value.int IntKind.i64 0)) 3, type := 4, pos := _, after := #[{ on := 18, ground := Ground.data }, { on := 16, ground := Ground.guard }], guard := some (16, true) }) (v := ?_) rfl (by kernel_rfl) (by kernel_rfl) (by kernel_rfl) (fun _ _ _ h => h) (Or.inl ⟨by rfl, ?_⟩) (by assumption) ?_
      rotate_left
      · intro wt hSw; (try dsimp only at hSw); have s0 := cellB hSw s0 z0; have g0 := cellB hSw g0 z1; have g1 := cellB hSw g1 z1; have g2 := cellB hSw g2 z1; have g3 := cellB hSw g3 z1; have d2 := cellB hSw d2 zb; first | (go_simp; done) | (go_simp; with_reducible rfl) | (trace_state; fail)
      try simp only [Act.put, List.setIfInBounds_toArray, List.set_cons_zero, List.set_cons_succ]
      refine wpAnyH_take (i := 20) (oi := { dst := some 97, op := Op.pick (Operand.tmp 93) (Operand.tmp 96) (Operand.const (Value.bool false)), type := 4, pos := _, after := #[{ on := 16, ground := Ground.data }, { on := 19, ground := Ground.data }], guard := none }) (v := ?_) rfl (by kernel_rfl) (by kernel_rfl) (by kernel_rfl) (fun _ _ _ h => h) (Or.inl ⟨by rfl, ?_⟩) (by assumption) ?_
      rotate_left
      · intro wt hSw; (try dsimp only at hSw); have s0 := cellB hSw s0 z0; have g0 := cellB hSw g0 z1; have g1 := cellB hSw g1 z1; have g2 := cellB hSw g2 z1; have g3 := cellB hSw g3 z1; have d2 := cellB hSw d2 zb; first | (go_simp; done) | (go_simp; with_reducible rfl) | (trace_state; fail)
      try simp only [Act.put, List.setIfInBounds_toArray, List.set_cons_zero, List.set_cons_succ]
      refine wpAnyH_take (i := 21) (oi := { dst := some 98, op := Op.move (Operand.tmp 97), type := 4, pos := _, after := #[{ on := 20, ground := Ground.data }, { on := 16, ground := Ground.chain }], guard := none }) (v := ?_) rfl (by kernel_rfl) (by kernel_rfl) (by kernel_rfl) (fun _ _ _ h => h) (Or.inl ⟨by rfl, ?_⟩) (by assumption) ?_
      rotate_left
      · intro wt hSw; (try dsimp only at hSw); have s0 := cellB hSw s0 z0; have g0 := cellB hSw g0 z1; have g1 := cellB hSw g1 z1; have g2 := cellB hSw g2 z1; have g3 := cellB hSw g3 z1; have d2 := cellB hSw d2 zb; first | (go_simp; done) | (go_simp; with_reducible rfl) | (trace_state; fail)
      try simp only [Act.put, List.setIfInBounds_toArray, List.set_cons_zero, List.set_cons_succ]
      refine wpAnyH_take (i := 22) (oi := { dst := some 99, op := Op.fieldAddr 30 (Operand.tmp 3) 2, type := 0, pos := _, after := #[{ on := 21, ground := Ground.guard }], guard := some (21, true) }) (v := ?_) rfl (by kernel_rfl) (by kernel_rfl) (by kernel_rfl) (fun _ _ _ h => h) (Or.inl ⟨by rfl, ?_⟩) (by assumption) ?_
      rotate_left
      · intro wt hSw; (try dsimp only at hSw); have s0 := cellB hSw s0 z0; have g0 := cellB hSw g0 z1; have g1 := cellB hSw g1 z1; have g2 := cellB hSw g2 z1; have g3 := cellB hSw g3 z1; have d2 := cellB hSw d2 zb; first | (go_simp; done) | (go_simp; with_reducible rfl) | (trace_state; fail)
      try simp only [Act.put, List.setIfInBounds_toArray, List.set_cons_zero, List.set_cons_succ]
      refine wpAnyH_take (i := 23) (oi := { dst := some 100, op := Op.load 3 (Operand.tmp 99), type := 3, pos := _, after := #[{ on := 22, ground := Ground.data }, { on := 21, ground := Ground.guard }], guard := some (21, true) }) (v := ?_) rfl (by kernel_rfl) (by kernel_rfl) (by kernel_rfl) (fun _ _ _ h => h) (Or.inl ⟨by rfl, ?_⟩) (by assumption) ?_
      rotate_left
      · intro wt hSw; (try dsimp only at hSw); have s0 := cellB hSw s0 z0; have g0 := cellB hSw g0 z1; have g1 := cellB hSw g1 z1; have g2 := cellB hSw g2 z1; have g3 := cellB hSw g3 z1; have d2 := cellB hSw d2 zb; first | (go_simp; done) | (go_simp; with_reducible rfl) | (trace_state; fail)
      try simp only [Act.put, List.setIfInBounds_toArray, List.set_cons_zero, List.set_cons_succ]
      refine wpAnyH_take (i := 24) (oi := { dst := some 101, op := Op.fieldAddr 37 (Operand.tmp 2) 0, type := 0, pos := _, after := #[{ on := 21, ground := Ground.guard }], guard := some (21, true) }) (v := ?_) rfl (by kernel_rfl) (by kernel_rfl) (by kernel_rfl) (fun _ _ _ h => h) (Or.inl ⟨by rfl, ?_⟩) (by assumption) ?_
      rotate_left
      · intro wt hSw; (try dsimp only at hSw); have s0 := cellB hSw s0 z0; have g0 := cellB hSw g0 z1; have g1 := cellB hSw g1 z1; have g2 := cellB hSw g2 z1; have g3 := cellB hSw g3 z1; have d2 := cellB hSw d2 zb; first | (go_simp; done) | (go_simp; with_reducible rfl) | (trace_state; fail)
      try simp only [Act.put, List.setIfInBounds_toArray, List.set_cons_zero, List.set_cons_succ]
      refine wpAnyH_take (i := 25) (oi := { dst := some 102, op := Op.load 23 (Operand.tmp 101), type := 23, pos := _, after := #[{ on := 24, ground := Ground.data }, { on := 21, ground := Ground.guard }], guard := some (21, true) }) (v := ?_) rfl (by kernel_rfl) (by kernel_rfl) (by kernel_rfl) (fun _ _ _ h => h) (Or.inl ⟨by rfl, ?_⟩) (by assumption) ?_
      rotate_left
      · intro wt hSw; (try dsimp only at hSw); have s0 := cellB hSw s0 z0; have g0 := cellB hSw g0 z1; have g1 := cellB hSw g1 z1; have g2 := cellB hSw g2 z1; have g3 := cellB hSw g3 z1; have d2 := cellB hSw d2 zb; first | (go_simp; done) | (go_simp; with_reducible rfl) | (trace_state; fail)
      try simp only [Act.put, List.setIfInBounds_toArray, List.set_cons_zero, List.set_cons_succ]
      refine wpAnyH_take (i := 26) (oi := { dst := some 103, op := Op.call { callee := Callee.builtin Builtin.len, args := #[Operand.tmp 102], argTypes := #[23] }, type := 3, pos := _, after := #[{ on := 25, ground := Ground.data }, { on := 21, ground := Ground.guard }], guard := some (21, true) }) (v := ?_) rfl (by kernel_rfl) (by kernel_rfl) (by kernel_rfl) (fun _ _ _ h => h) (Or.inl ⟨by rfl, ?_⟩) (by assumption) ?_
      rotate_left
      · intro wt hSw; (try dsimp only at hSw); have s0 := cellB hSw s0 z0; have g0 := cellB hSw g0 z1; have g1 := cellB hSw g1 z1; have g2 := cellB hSw g2 z1; have g3 := cellB hSw g3 z1; have d2 := cellB hSw d2 zb; first | (go_simp; done) | (go_simp; with_reducible rfl) | (trace_state; fail)
      try simp only [Act.put, List.setIfInBounds_toArray, List.set_cons_zero, List.set_cons_succ]
      refine wpAnyH_take (i := 27) (oi := { dst := some 104, op := Op.binOp BinOp.lss 3 (Operand.tmp 100) (Operand.tmp 103) 3, type := 4, pos := _, after := #[{ on := 23, ground := Ground.data }, { on := 26, ground := Ground.data }, { on := 21, ground := Ground.guard }], guard := some (21, true) }) (v := ?_) rfl (by kernel_rfl) (by kernel_rfl) (by kernel_rfl) (fun _ _ _ h => h) (Or.inl ⟨by rfl, ?_⟩) (by assumption) ?_
      rotate_left
      · intro wt hSw; (try dsimp only at hSw); have s0 := cellB hSw s0 z0; have g0 := cellB hSw g0 z1; have g1 := cellB hSw g1 z1; have g2 := cellB hSw g2 z1; have g3 := cellB hSw g3 z1; have d2 := cellB hSw d2 zb; first | (go_simp; done) | (go_simp; with_reducible rfl) | (trace_state; fail)
      try simp only [Act.put, List.setIfInBounds_toArray, List.set_cons_zero, List.set_cons_succ]
      refine wpAnyH_take (i := 28) (oi := { dst := some 105, op := Op.pick (Operand.tmp 98) (Operand.tmp 104) (Operand.const (Value.bool false)), type := 4, pos := _, after := #[{ on := 21, ground := Ground.data }, { on := 27, ground := Ground.data }], guard := none }) (v := ?_) rfl (by kernel_rfl) (by kernel_rfl) (by kernel_rfl) (fun _ _ _ h => h) (Or.inl ⟨by rfl, ?_⟩) (by assumption) ?_
      rotate_left
      · intro wt hSw; (try dsimp only at hSw); have s0 := cellB hSw s0 z0; have g0 := cellB hSw g0 z1; have g1 := cellB hSw g1 z1; have g2 := cellB hSw g2 z1; have g3 := cellB hSw g3 z1; have d2 := cellB hSw d2 zb; first | (go_simp; done) | (go_simp; with_reducible rfl) | (trace_state; fail)
      try simp only [Act.put, List.setIfInBounds_toArray, List.set_cons_zero, List.set_cons_succ]
      refine wpAnyH_take (i := 29) (oi := { dst := some 106, op := Op.move (Operand.tmp 105), type := 4, pos := _, after := #[{ on := 28, ground := Ground.data }, { on := 21, ground := Ground.chain }], guard := none }) (v := ?_) rfl (by kernel_rfl) (by kernel_rfl) (by kernel_rfl) (fun _ _ _ h => h) (Or.inl ⟨by rfl, ?_⟩) (by assumption) ?_
      rotate_left
      · intro wt hSw; (try dsimp only at hSw); have s0 := cellB hSw s0 z0; have g0 := cellB hSw g0 z1; have g1 := cellB hSw g1 z1; have g2 := cellB hSw g2 z1; have g3 := cellB hSw g3 z1; have d2 := cellB hSw d2 zb; first | (go_simp; done) | (go_simp; with_reducible rfl) | (trace_state; fail)
      try simp only [Act.put, List.setIfInBounds_toArray, List.set_cons_zero, List.set_cons_succ]
      refine wpAnyH_take (i := 30) (oi := { dst := some 107, op := Op.fieldAddr 37 (Operand.tmp 2) 0, type := 0, pos := _, after := #[{ on := 29, ground := Ground.guard }], guard := some (29, true) }) (v := ?_) rfl (by kernel_rfl) (by kernel_rfl) (by kernel_rfl) (fun _ _ _ h => h) (Or.inl ⟨by rfl, ?_⟩) (by assumption) ?_
      rotate_left
      · intro wt hSw; (try dsimp only at hSw); have s0 := cellB hSw s0 z0; have g0 := cellB hSw g0 z1; have g1 := cellB hSw g1 z1; have g2 := cellB hSw g2 z1; have g3 := cellB hSw g3 z1; have d2 := cellB hSw d2 zb; first | (go_simp; done) | (go_simp; with_reducible rfl) | (trace_state; fail)
      try simp only [Act.put, List.setIfInBounds_toArray, List.set_cons_zero, List.set_cons_succ]
      refine wpAnyH_take (i := 31) (oi := { dst := some 108, op := Op.load 23 (Operand.tmp 107), type := 23, pos := _, after := #[{ on := 30, ground := Ground.data }, { on := 29, ground := Ground.guard }], guard := some (29, true) }) (v := ?_) rfl (by kernel_rfl) (by kernel_rfl) (by kernel_rfl) (fun _ _ _ h => h) (Or.inl ⟨by rfl, ?_⟩) (by assumption) ?_
      rotate_left
      · intro wt hSw; (try dsimp only at hSw); have s0 := cellB hSw s0 z0; have g0 := cellB hSw g0 z1; have g1 := cellB hSw g1 z1; have g2 := cellB hSw g2 z1; have g3 := cellB hSw g3 z1; have d2 := cellB hSw d2 zb; first | (go_simp; done) | (go_simp; with_reducible rfl) | (trace_state; fail)
      try simp only [Act.put, List.setIfInBounds_toArray, List.set_cons_zero, List.set_cons_succ]
      refine wpAnyH_take (i := 32) (oi := { dst := some 109, op := Op.fieldAddr 30 (Operand.tmp 3) 2, type := 0, pos := _, after := #[{ on := 29, ground := Ground.guard }], guard := some (29, true) }) (v := ?_) rfl (by kernel_rfl) (by kernel_rfl) (by kernel_rfl) (fun _ _ _ h => h) (Or.inl ⟨by rfl, ?_⟩) (by assumption) ?_
      rotate_left
      · intro wt hSw; (try dsimp only at hSw); have s0 := cellB hSw s0 z0; have g0 := cellB hSw g0 z1; have g1 := cellB hSw g1 z1; have g2 := cellB hSw g2 z1; have g3 := cellB hSw g3 z1; have d2 := cellB hSw d2 zb; first | (go_simp; done) | (go_simp; with_reducible rfl) | (trace_state; fail)
      try simp only [Act.put, List.setIfInBounds_toArray, List.set_cons_zero, List.set_cons_succ]
      refine wpAnyH_take (i := 33) (oi := { dst := some 110, op := Op.load 3 (Operand.tmp 109), type := 3, pos := _, after := #[{ on := 32, ground := Ground.data }, { on := 29, ground := Ground.guard }], guard := some (29, true) }) (v := ?_) rfl (by kernel_rfl) (by kernel_rfl) (by kernel_rfl) (fun _ _ _ h => h) (Or.inl ⟨by rfl, ?_⟩) (by assumption) ?_
      rotate_left
      · intro wt hSw; (try dsimp only at hSw); have s0 := cellB hSw s0 z0; have g0 := cellB hSw g0 z1; have g1 := cellB hSw g1 z1; have g2 := cellB hSw g2 z1; have g3 := cellB hSw g3 z1; have d2 := cellB hSw d2 zb; first | (go_simp; done) | (go_simp; with_reducible rfl) | (trace_state; fail)
      try simp only [Act.put, List.setIfInBounds_toArray, List.set_cons_zero, List.set_cons_succ]
      refine wpAnyH_take (i := 34) (oi := { dst := some 111, op := Op.indexAddr 23 (Operand.tmp 108) (Operand.tmp 110), type := 0, pos := _, after := #[{ on := 31, ground := Ground.data }, { on := 33, ground := Ground.data }, { on := 29, ground := Ground.guard }], guard := some (29, true) }) (v := ?_) rfl (by kernel_rfl) (by kernel_rfl) (by kernel_rfl) (fun _ _ _ h => h) (Or.inl ⟨by rfl, ?_⟩) (by assumption) ?_
      rotate_left
      · intro wt hSw; (try dsimp only at hSw); have s0 := cellB hSw s0 z0; have g0 := cellB hSw g0 z1; have g1 := cellB hSw g1 z1; have g2 := cellB hSw g2 z1; have g3 := cellB hSw g3 z1; have d2 := cellB hSw d2 zb; first | (go_simp; done) | (go_simp; with_reducible rfl) | (trace_state; fail)
      try simp only [Act.put, List.setIfInBounds_toArray, List.set_cons_zero, List.set_cons_succ]
      refine wpAnyH_take (i := 35) (oi := { dst := some 112, op := Op.fieldAddr 45 (Operand.tmp 111) 2, type := 0, pos := _, after := #[{ on := 34, ground := Ground.data }, { on := 29, ground := Ground.guard }], guard := some (29, true) }) (v := ?_) rfl (by kernel_rfl) (by kernel_rfl) (by kernel_rfl) (fun _ _ _ h => h) (Or.inl ⟨by rfl, ?_⟩) (by assumption) ?_
      rotate_left
      · intro wt hSw; (try dsimp only at hSw); have s0 := cellB hSw s0 z0; have g0 := cellB hSw g0 z1; have g1 := cellB hSw g1 z1; have g2 := cellB hSw g2 z1; have g3 := cellB hSw g3 z1; have d2 := cellB hSw d2 zb; first | (go_simp; done) | (go_simp; with_reducible rfl) | (trace_state; fail)
      try simp only [Act.put, List.setIfInBounds_toArray, List.set_cons_zero, List.set_cons_succ]
      refine wpAnyH_take (i := 36) (oi := { dst := some 113, op := Op.load 3 (Operand.tmp 112), type := 3, pos := _, after := #[{ on := 35, ground := Ground.data }, { on := 29, ground := Ground.guard }], guard := some (29, true) }) (v := ?_) rfl (by kernel_rfl) (by kernel_rfl) (by kernel_rfl) (fun _ _ _ h => h) (Or.inl ⟨by rfl, ?_⟩) (by assumption) ?_
      rotate_left
      · intro wt hSw; (try dsimp only at hSw); have s0 := cellB hSw s0 z0; have g0 := cellB hSw g0 z1; have g1 := cellB hSw g1 z1; have g2 := cellB hSw g2 z1; have g3 := cellB hSw g3 z1; have d2 := cellB hSw d2 zb; first | (go_simp; done) | (go_simp; with_reducible rfl) | (trace_state; fail)
      try simp only [Act.put, List.setIfInBounds_toArray, List.set_cons_zero, List.set_cons_succ]
      refine wpAnyH_take (i := 37) (oi := { dst := some 114, op := Op.binOp BinOp.gtr 3 (Operand.tmp 113) (Operand.const (Value.int IntKind.i64 1)) 3, type := 4, pos := _, after := #[{ on := 36, ground := Ground.data }, { on := 29, ground := Ground.guard }], guard := some (29, true) }) (v := ?_) rfl (by kernel_rfl) (by kernel_rfl) (by kernel_rfl) (fun _ _ _ h => h) (Or.inl ⟨by rfl, ?_⟩) (by assumption) ?_
      rotate_left
      · intro wt hSw; (try dsimp only at hSw); have s0 := cellB hSw s0 z0; have g0 := cellB hSw g0 z1; have g1 := cellB hSw g1 z1; have g2 := cellB hSw g2 z1; have g3 := cellB hSw g3 z1; have d2 := cellB hSw d2 zb; first | (go_simp; done) | (go_simp; with_reducible rfl) | (trace_state; fail)
      try simp only [Act.put, List.setIfInBounds_toArray, List.set_cons_zero, List.set_cons_succ]
      refine wpAnyH_take (i := 38) (oi := { dst := some 115, op := Op.fieldAddr 30 (Operand.tmp 3) 0, type := 0, pos := _, after := #[{ on := 29, ground := Ground.guard }], guard := some (29, true) }) (v := ?_) rfl (by kernel_rfl) (by kernel_rfl) (by kernel_rfl) (fun _ _ _ h => h) (Or.inl ⟨by rfl, ?_⟩) (by assumption) ?_
      rotate_left
      · intro wt hSw; (try dsimp only at hSw); have s0 := cellB hSw s0 z0; have g0 := cellB hSw g0 z1; have g1 := cellB hSw g1 z1; have g2 := cellB hSw g2 z1; have g3 := cellB hSw g3 z1; have d2 := cellB hSw d2 zb; first | (go_simp; done) | (go_simp; with_reducible rfl) | (trace_state; fail)
      try simp only [Act.put, List.setIfInBounds_toArray, List.set_cons_zero, List.set_cons_succ]
      refine wpAnyH_take (i := 39) (oi := { dst := some 116, op := Op.load 3 (Operand.tmp 115), type := 3, pos := _, after := #[{ on := 38, ground := Ground.data }, { on := 29, ground := Ground.guard }], guard := some (29, true) }) (v := ?_) rfl (by kernel_rfl) (by kernel_rfl) (by kernel_rfl) (fun _ _ _ h => h) (Or.inl ⟨by rfl, ?_⟩) (by assumption) ?_
      rotate_left
      · intro wt hSw; (try dsimp only at hSw); have s0 := cellB hSw s0 z0; have g0 := cellB hSw g0 z1; have g1 := cellB hSw g1 z1; have g2 := cellB hSw g2 z1; have g3 := cellB hSw g3 z1; have d2 := cellB hSw d2 zb; first | (go_simp; done) | (go_simp; with_reducible rfl) | (trace_state; fail)
      try simp only [Act.put, List.setIfInBounds_toArray, List.set_cons_zero, List.set_cons_succ]
      refine wpAnyH_take (i := 40) (oi := { dst := some 117, op := Op.binOp BinOp.eql 3 (Operand.tmp 116) (Operand.const (Value.int IntKind.i64 4)) 3, type := 4, pos := _, after := #[{ on := 39, ground := Ground.data }, { on := 29, ground := Ground.guard }], guard := some (29, true) }) (v := ?_) rfl (by kernel_rfl) (by kernel_rfl) (by kernel_rfl) (fun _ _ _ h => h) (Or.inl ⟨by rfl, ?_⟩) (by assumption) ?_
      rotate_left
      · intro wt hSw; (try dsimp only at hSw); have s0 := cellB hSw s0 z0; have g0 := cellB hSw g0 z1; have g1 := cellB hSw g1 z1; have g2 := cellB hSw g2 z1; have g3 := cellB hSw g3 z1; have d2 := cellB hSw d2 zb; first | (go_simp; done) | (go_simp; with_reducible rfl) | (trace_state; fail)
      try simp only [Act.put, List.setIfInBounds_toArray, List.set_cons_zero, List.set_cons_succ]
      refine wpAnyH_take (i := 41) (oi := { dst := some 118, op := Op.binOp BinOp.eql 4 (Operand.tmp 114) (Operand.tmp 117) 4, type := 4, pos := _, after := #[{ on := 37, ground := Ground.data }, { on := 40, ground := Ground.data }, { on := 29, ground := Ground.guard }], guard := some (29, true) }) (v := ?_) rfl (by kernel_rfl) (by kernel_rfl) (by kernel_rfl) (fun _ _ _ h => h) (Or.inl ⟨by rfl, ?_⟩) (by assumption) ?_
      rotate_left
      · intro wt hSw; (try dsimp only at hSw); have s0 := cellB hSw s0 z0; have g0 := cellB hSw g0 z1; have g1 := cellB hSw g1 z1; have g2 := cellB hSw g2 z1; have g3 := cellB hSw g3 z1; have d2 := cellB hSw d2 zb; first | (go_simp; done) | (go_simp; with_reducible rfl) | (trace_state; fail)
      try simp only [Act.put, List.setIfInBounds_toArray, List.set_cons_zero, List.set_cons_succ]
      refine wpAnyH_take (i := 42) (oi := { dst := some 119, op := Op.pick (Operand.tmp 106) (Operand.tmp 118) (Operand.const (Value.bool false)), type := 4, pos := _, after := #[{ on := 29, ground := Ground.data }, { on := 41, ground := Ground.data }], guard := none }) (v := ?_) rfl (by kernel_rfl) (by kernel_rfl) (by kernel_rfl) (fun _ _ _ h => h) (Or.inl ⟨by rfl, ?_⟩) (by assumption) ?_
      rotate_left
      · intro wt hSw; (try dsimp only at hSw); have s0 := cellB hSw s0 z0; have g0 := cellB hSw g0 z1; have g1 := cellB hSw g1 z1; have g2 := cellB hSw g2 z1; have g3 := cellB hSw g3 z1; have d2 := cellB hSw d2 zb; first | (go_simp; done) | (go_simp; with_reducible rfl) | (trace_state; fail)
      try simp only [Act.put, List.setIfInBounds_toArray, List.set_cons_zero, List.set_cons_succ]
      refine wpAnyH_take (i := 43) (oi := { dst := some 120, op := Op.move (Operand.tmp 119), type := 4, pos := _, after := #[{ on := 42, ground := Ground.data }, { on := 29, ground := Ground.chain }], guard := none }) (v := ?_) rfl (by kernel_rfl) (by kernel_rfl) (by kernel_rfl) (fun _ _ _ h => h) (Or.inl ⟨by rfl, ?_⟩) (by assumption) ?_
      rotate_left
      · intro wt hSw; (try dsimp only at hSw); have s0 := cellB hSw s0 z0; have g0 := cellB hSw g0 z1; have g1 := cellB hSw g1 z1; have g2 := cellB hSw g2 z1; have g3 := cellB hSw g3 z1; have d2 := cellB hSw d2 zb; first | (go_simp; done) | (go_simp; with_reducible rfl) | (trace_state; fail)
      try simp only [Act.put, List.setIfInBounds_toArray, List.set_cons_zero, List.set_cons_succ]
      refine wpAnyH_take (i := 44) (oi := { dst := some 121, op := Op.move (Operand.tmp 5), type := 3, pos := _, after := #[{ on := 43, ground := Ground.guard }], guard := some (43, true) }) (v := ?_) rfl (by kernel_rfl) (by kernel_rfl) (by kernel_rfl) (fun _ _ _ h => h) (Or.inl ⟨by rfl, ?_⟩) (by assumption) ?_
      rotate_left
      · intro wt hSw; (try dsimp only at hSw); have s0 := cellB hSw s0 z0; have g0 := cellB hSw g0 z1; have g1 := cellB hSw g1 z1; have g2 := cellB hSw g2 z1; have g3 := cellB hSw g3 z1; have d2 := cellB hSw d2 zb; first | (go_simp; done) | (go_simp; with_reducible rfl) | (trace_state; fail)
      try simp only [Act.put, List.setIfInBounds_toArray, List.set_cons_zero, List.set_cons_succ]
      refine wpAnyH_take (i := 45) (oi := { dst := some 122, op := Op.binOp BinOp.eql 3 (Operand.tmp 121) (Operand.const (Value.int IntKind.i64 0)) 3, type := 4, pos := _, after := #[{ on := 44, ground := Ground.data }, { on := 43, ground := Ground.guard }], guard := some (43, true) }) (v := ?_) rfl (by kernel_rfl) (by kernel_rfl) (by kernel_rfl) (fun _ _ _ h => h) (Or.inl ⟨by rfl, ?_⟩) (by assumption) ?_
      rotate_left
      · intro wt hSw; (try dsimp only at hSw); have s0 := cellB hSw s0 z0; have g0 := cellB hSw g0 z1; have g1 := cellB hSw g1 z1; have g2 := cellB hSw g2 z1; have g3 := cellB hSw g3 z1; have d2 := cellB hSw d2 zb; first | (go_simp; done) | (go_simp; with_reducible rfl) | (trace_state; fail)
      try simp only [Act.put, List.setIfInBounds_toArray, List.set_cons_zero, List.set_cons_succ]
      refine wpAnyH_take (i := 46) (oi := { dst := some 123, op := Op.move (Operand.tmp 122), type := 4, pos := _, after := #[{ on := 45, ground := Ground.data }, { on := 43, ground := Ground.chain }, { on := 43, ground := Ground.guard }], guard := some (43, true) }) (v := ?_) rfl (by kernel_rfl) (by kernel_rfl) (by kernel_rfl) (fun _ _ _ h => h) (Or.inl ⟨by rfl, ?_⟩) (by assumption) ?_
      rotate_left
      · intro wt hSw; (try dsimp only at hSw); have s0 := cellB hSw s0 z0; have g0 := cellB hSw g0 z1; have g1 := cellB hSw g1 z1; have g2 := cellB hSw g2 z1; have g3 := cellB hSw g3 z1; have d2 := cellB hSw d2 zb; first | (go_simp; done) | (go_simp; with_reducible rfl) | (trace_state; fail)
      try simp only [Act.put, List.setIfInBounds_toArray, List.set_cons_zero, List.set_cons_succ]
      refine wpAnyH_take (i := 47) (oi := { dst := some 124, op := Op.move (Operand.tmp 6), type := 3, pos := _, after := #[{ on := 46, ground := Ground.guard }], guard := some (46, false) }) (v := undef) rfl (by kernel_rfl) (by kernel_rfl) (by kernel_rfl) (fun _ _ _ h => h) (Or.inr ⟨by rfl, rfl⟩) (by assumption) ?_
      try simp only [Act.put, List.setIfInBounds_toArray, List.set_cons_zero, List.set_cons_succ]
      refine wpAnyH_take (i := 48) (oi := { dst := some 125, op := Op.binOp BinOp.eql 3 (Operand.tmp 124) (Operand.const (Value.int IntKind.i64 2)) 3, type := 4, pos := _, after := #[{ on := 47, ground := Ground.data }, { on := 46, ground := Ground.guard }], guard := some (46, false) }) (v := undef) rfl (by kernel_rfl) (by kernel_rfl) (by kernel_rfl) (fun _ _ _ h => h) (Or.inr ⟨by rfl, rfl⟩) (by assumption) ?_
      try simp only [Act.put, List.setIfInBounds_toArray, List.set_cons_zero, List.set_cons_succ]
      refine wpAnyH_take (i := 49) (oi := { dst := some 126, op := Op.pick (Operand.tmp 123) (Operand.const (Value.bool true)) (Operand.tmp 125), type := 4, pos := _, after := #[{ on := 46, ground := Ground.data }, { on := 48, ground := Ground.data }, { on := 43, ground := Ground.guard }], guard := some (43, true) }) (v := ?_) rfl (by kernel_rfl) (by kernel_rfl) (by kernel_rfl) (fun _ _ _ h => h) (Or.inl ⟨by rfl, ?_⟩) (by assumption) ?_
      rotate_left
      · intro wt hSw; (try dsimp only at hSw); have s0 := cellB hSw s0 z0; have g0 := cellB hSw g0 z1; have g1 := cellB hSw g1 z1; have g2 := cellB hSw g2 z1; have g3 := cellB hSw g3 z1; have d2 := cellB hSw d2 zb; first | (go_simp; done) | (go_simp; with_reducible rfl) | (trace_state; fail)
      try simp only [Act.put, List.setIfInBounds_toArray, List.set_cons_zero, List.set_cons_succ]
      refine wpAnyH_take (i := 50) (oi := { dst := some 127, op := Op.pick (Operand.tmp 120) (Operand.tmp 126) (Operand.const (Value.bool false)), type := 4, pos := _, after := #[{ on := 43, ground := Ground.data }, { on := 49, ground := Ground.data }], guard := none }) (v := ?_) rfl (by kernel_rfl) (by kernel_rfl) (by kernel_rfl) (fun _ _ _ h => h) (Or.inl ⟨by rfl, ?_⟩) (by assumption) ?_
      rotate_left
      · intro wt hSw; (try dsimp only at hSw); have s0 := cellB hSw s0 z0; have g0 := cellB hSw g0 z1; have g1 := cellB hSw g1 z1; have g2 := cellB hSw g2 z1; have g3 := cellB hSw g3 z1; have d2 := cellB hSw d2 zb; first | (go_simp; done) | (go_simp; with_reducible rfl) | (trace_state; fail)
      try simp only [Act.put, List.setIfInBounds_toArray, List.set_cons_zero, List.set_cons_succ]
      refine wpAnyH_done (by kernel_rfl) ?_ _
      have HHw := Lib.hid (HB0.out.trans (hHeld.mono HB0.out.size))
      have s0 := cellB hHeld s0 z0
      have g2 := cellB hHeld g2 z1
      have d1 := cellB hHeld d1 zb
      clear hHeld
      go_wp2_with fail
      refine (hK _).mono ?_; rintro r w2 ⟨rfl, rfl⟩
      go_wp2_with fail
      go_ret
      exact ⟨by rw [hres.out]; rfl, HHw.out⟩
end Go.Proofs.YtpecpeedefeokaaDoor
