/- Merged texts: ExR5, ExR7, ExRT, LawExTy. -/
import Derived.Test.YtpecpeedefeokaaDoorMg0
import Derived.Test.YtpecpeedefeokaaDoorMg1
import Derived.Test.YtpecpeedefeokaaDoorMg2
import Derived.Test.YtpecpeedefeokaaDoorMg3
/- Layer 26: the document's Type, of an expression with one within it (op 2). -/
namespace Go.Proofs.YtpecpeedefeokaaDoor
open Go.RowKit
set_option linter.unusedSimpArgs false
set_option linter.unusedVariables false
set_option maxRecDepth 100000 in
set_option maxHeartbeats 8000000 in
theorem ref26_Type12 (a b c d : Value) (s : Sc) (op t n m : Int) (x : Ex) (v : Value) (w : World) (hs : ScAt w a b d s) (hc0 : ∃ p q k, c = .slice p q k) (hv : ExV w v ⟨op, t, n, m, [x]⟩) (hx : Typed w a b c d s x) (o4 : op = 2) :
    Calls Tryd.prog 11 #[.agg #[a, b, c, d], v] w fun r w' => r = .returned (.int .i64 (if typeE s x = 0 then 0 else singleT s ⟨op, t, n, m, [x]⟩ (typeE s x))) ∧ Below w.heap.size w w' := by
  obtain ⟨sl, rfl, _, hrl⟩ := hv
  have HS := Lib.hid hs.vs
  obtain ⟨sa, ca, rfl⟩ := row_get hs.vs
  obtain ⟨sb, cb, rfl⟩ := row_get hs.bs
  obtain ⟨sd, cd, rfl⟩ := row_get hs.ss
  obtain ⟨p, q, k, rfl⟩ := hc0
  have hlen := hrl.len
  obtain ⟨al, cl, rfl⟩ := row_get hrl
  have hcap := cap_row hrl (k := 0) (by simp)
  obtain ⟨b, off, s1, sn1, sc1, rfl, hbw, _, _, d0, d1, d2, d3, d4, hxv⟩ := ex_at hrl (k := 0) (x := x) rfl
  simp only [Nat.zero_mul, Nat.one_mul, Nat.add_zero] at d0 d1 d2 d3 d4
  simp only [List.length_cons, List.length_nil, Nat.zero_add] at hlen hcap ⊢
  obtain ⟨NV, hNV⟩ : ∃ N, s.vars.length = N := ⟨_, rfl⟩
  have HNV := Lib.hid hNV
  have hlv := hs.vs.len
  rw [hNV] at HS hlv hx ⊢
  have q0 : ((0 : Int) < (1 : Int)) = True := by decide
  have r0 : (0 < 1) = True := by decide
  obtain ⟨W0, hW0⟩ : ∃ W0, W0 = (w.alloc (.cells #[.slice sa NV ca, .slice sb s.blocks.length cb, .slice p q k, .slice sd s.slots.length cd] 37)).alloc (.cells #[.int .i64 op, .int .i64 t, .int .i64 n, .int .i64 m, .slice (some ⟨b, off, none⟩) 1 cl] 30) := ⟨_, rfl⟩
  have ho0 : W0.heap[w.heap.size]? = some (.cells #[.slice sa NV ca, .slice sb s.blocks.length cb, .slice p q k, .slice sd s.slots.length cd] 37) := by rw [hW0, get_past (by simp)]; exact get_last rfl
  have ho1 : W0.heap[w.heap.size + 1]? = some (.cells #[.int .i64 op, .int .i64 t, .int .i64 n, .int .i64 m, .slice (some ⟨b, off, none⟩) 1 cl] 30) := by rw [hW0]; exact get_last (by simp)
  have hbW : Below w.heap.size w W0 := by rw [hW0]; exact by (repeat' (first | (with_reducible exact Below.refl _ _) | (with_reducible assumption) | (with_reducible refine below_drewN ?_ _) | (with_reducible refine Below.alloc ?_ ?_ _) | (with_reducible refine Below.drew ?_) | (with_reducible refine Below.setCell ?_ ?_ _) | go_size))
  have HW0 := Lib.hid hW0
  have HB0 := Lib.hid hbW
  have z0 := heap_lt ho0
  have z1 := heap_lt ho1
  have zb : b < W0.heap.size := Nat.lt_of_lt_of_le hbw hbW.size
  have s0 : W0.cell? ⟨w.heap.size, 0, none⟩ = some (.slice sa NV ca) := obj_cell ho0 (i := 0) rfl
  have s1 : W0.cell? ⟨w.heap.size, 1, none⟩ = some (.slice sb s.blocks.length cb) := obj_cell ho0 (i := 1) rfl
  have s2 : W0.cell? ⟨w.heap.size, 2, none⟩ = some (.slice p q k) := obj_cell ho0 (i := 2) rfl
  have s3 : W0.cell? ⟨w.heap.size, 3, none⟩ = some (.slice sd s.slots.length cd) := obj_cell ho0 (i := 3) rfl
  have g4 : W0.cell? ⟨w.heap.size + 1, 4, none⟩ = some (.slice (some ⟨b, off, none⟩) 1 cl) := obj_cell ho1 (i := 4) rfl
  have g0 : W0.cell? ⟨w.heap.size + 1, 0, none⟩ = some (.int .i64 op) := obj_cell ho1 (i := 0) rfl
  have g1 : W0.cell? ⟨w.heap.size + 1, 1, none⟩ = some (.int .i64 t) := obj_cell ho1 (i := 1) rfl
  have g2 : W0.cell? ⟨w.heap.size + 1, 2, none⟩ = some (.int .i64 n) := obj_cell ho1 (i := 2) rfl
  have g3 : W0.cell? ⟨w.heap.size + 1, 3, none⟩ = some (.int .i64 m) := obj_cell ho1 (i := 3) rfl
  have d0 := (hbW.cell (p := ⟨b, off, none⟩) hbw).trans d0
  have d1 := (hbW.cell (p := ⟨b, off + 1, none⟩) hbw).trans d1
  have d2 := (hbW.cell (p := ⟨b, off + 2, none⟩) hbw).trans d2
  have d3 := (hbW.cell (p := ⟨b, off + 3, none⟩) hbw).trans d3
  have d4 := (hbW.cell (p := ⟨b, off + 4, none⟩) hbw).trans d4
  have HXc := Lib.hid (fun W (_ : True) (h : Below W0.heap.size W0 W) => hx W _ (hbW.trans (h.mono hbW.size)) (hxv.below (hbW.trans (h.mono hbW.size))))
  generalize typeE s x = T at *
  clear hW0 hbW ho0 ho1 hx hxv hs hrl
  generalize hZ : (if T = 0 then 0 else singleT s ⟨op, t, n, m, [x]⟩ T) = Z
  have HZ := Lib.hid hZ
  clear hZ hNV
  have hK0 := ref01_Right 0
  rw [show kRight 0 = false from rfl] at hK0
  subst o4
  have hw2 : IntKind.i64.wrap 2 = 2 := by decide
  have hw1 : IntKind.i64.wrap 1 = 1 := by decide
  have hw0 : IntKind.i64.wrap 0 = 0 := by decide
  have hwt : IntKind.i64.wrap (Int.tdiv 2 2) = 1 := by decide
  have hwz : IntKind.i64.wrap (Int.tdiv 0 2) = 0 := by decide
  go_enter Tryd.func11, Tryd.ntmps11
  go_upto_region 5 with fail
  rw [← HW0.out]
  refine wp_region_held_drew (S := (fun w' => Below W0.heap.size W0 w')) (by kernel_rfl) ?_ (fun hHeld => ?_)
  · (try dsimp only); first | assumption | exact Below.alloc hHeld hHeld.size _ | exact (Below.refl _ _).drew | exact Below.drew (Below.refl _ _) | exact Below_drewN _ _ _ | exact Below.refl _ _ | (trace_state; fail)
  refine wpAnyH_take (i := 0) (oi := { dst := some 17, op := Op.load 37 (Operand.tmp 2), type := 37, pos := _, after := #[], guard := none }) (v := ?_) rfl (by kernel_rfl) (by kernel_rfl) (by kernel_rfl) (fun _ _ _ h => h) (Or.inl ⟨by rfl, ?_⟩) (by assumption) ?_
  rotate_left
  · intro wt hSw; (try dsimp only at hSw); have s0 := cellB hSw s0 z0; have s1 := cellB hSw s1 z0; have s2 := cellB hSw s2 z0; have s3 := cellB hSw s3 z0; have g4 := cellB hSw g4 z1; have d0 := cellB hSw d0 zb; have d1 := cellB hSw d1 zb; have d2 := cellB hSw d2 zb; have d3 := cellB hSw d3 zb; have d4 := cellB hSw d4 zb; first | (go_simp; done) | (go_simp; with_reducible rfl) | (trace_state; fail)
  try simp only [Act.put, List.setIfInBounds_toArray, List.set_cons_zero, List.set_cons_succ]
  refine wpAnyH_take (i := 1) (oi := { dst := some 18, op := Op.fieldAddr 30 (Operand.tmp 3) 4, type := 0, pos := _, after := #[], guard := none }) (v := ?_) rfl (by kernel_rfl) (by kernel_rfl) (by kernel_rfl) (fun _ _ _ h => h) (Or.inl ⟨by rfl, ?_⟩) (by assumption) ?_
  rotate_left
  · intro wt hSw; (try dsimp only at hSw); have s0 := cellB hSw s0 z0; have s1 := cellB hSw s1 z0; have s2 := cellB hSw s2 z0; have s3 := cellB hSw s3 z0; have g4 := cellB hSw g4 z1; have d0 := cellB hSw d0 zb; have d1 := cellB hSw d1 zb; have d2 := cellB hSw d2 zb; have d3 := cellB hSw d3 zb; have d4 := cellB hSw d4 zb; first | (go_simp; done) | (go_simp; with_reducible rfl) | (trace_state; fail)
  try simp only [Act.put, List.setIfInBounds_toArray, List.set_cons_zero, List.set_cons_succ]
  refine wpAnyH_take (i := 2) (oi := { dst := some 19, op := Op.load 28 (Operand.tmp 18), type := 28, pos := _, after := #[{ on := 1, ground := Ground.data }], guard := none }) (v := ?_) rfl (by kernel_rfl) (by kernel_rfl) (by kernel_rfl) (fun _ _ _ h => h) (Or.inl ⟨by rfl, ?_⟩) (by assumption) ?_
  rotate_left
  · intro wt hSw; (try dsimp only at hSw); have s0 := cellB hSw s0 z0; have s1 := cellB hSw s1 z0; have s2 := cellB hSw s2 z0; have s3 := cellB hSw s3 z0; have g4 := cellB hSw g4 z1; have d0 := cellB hSw d0 zb; have d1 := cellB hSw d1 zb; have d2 := cellB hSw d2 zb; have d3 := cellB hSw d3 zb; have d4 := cellB hSw d4 zb; first | (go_simp; done) | (go_simp; with_reducible rfl) | (trace_state; fail)
  try simp only [Act.put, List.setIfInBounds_toArray, List.set_cons_zero, List.set_cons_succ]
  refine wpAnyH_take (i := 3) (oi := { dst := some 20, op := Op.indexAddr 28 (Operand.tmp 19) (Operand.const (Value.int IntKind.i64 0)), type := 0, pos := _, after := #[{ on := 2, ground := Ground.data }], guard := none }) (v := ?_) rfl (by kernel_rfl) (by kernel_rfl) (by kernel_rfl) (fun _ _ _ h => h) (Or.inl ⟨by rfl, ?_⟩) (by assumption) ?_
  rotate_left
  · intro wt hSw; (try dsimp only at hSw); have s0 := cellB hSw s0 z0; have s1 := cellB hSw s1 z0; have s2 := cellB hSw s2 z0; have s3 := cellB hSw s3 z0; have g4 := cellB hSw g4 z1; have d0 := cellB hSw d0 zb; have d1 := cellB hSw d1 zb; have d2 := cellB hSw d2 zb; have d3 := cellB hSw d3 zb; have d4 := cellB hSw d4 zb; first | (go_simp; done) | (go_simp; with_reducible rfl) | (trace_state; fail)
  try simp only [Act.put, List.setIfInBounds_toArray, List.set_cons_zero, List.set_cons_succ]
  refine wpAnyH_take (i := 4) (oi := { dst := some 21, op := Op.load 30 (Operand.tmp 20), type := 30, pos := _, after := #[{ on := 3, ground := Ground.data }], guard := none }) (v := ?_) rfl (by kernel_rfl) (by kernel_rfl) (by kernel_rfl) (fun _ _ _ h => h) (Or.inl ⟨by rfl, ?_⟩) (by assumption) ?_
  rotate_left
  · intro wt hSw; (try dsimp only at hSw); have s0 := cellB hSw s0 z0; have s1 := cellB hSw s1 z0; have s2 := cellB hSw s2 z0; have s3 := cellB hSw s3 z0; have g4 := cellB hSw g4 z1; have d0 := cellB hSw d0 zb; have d1 := cellB hSw d1 zb; have d2 := cellB hSw d2 zb; have d3 := cellB hSw d3 zb; have d4 := cellB hSw d4 zb; first | (go_simp; done) | (go_simp; with_reducible rfl) | (trace_state; fail)
  try simp only [Act.put, List.setIfInBounds_toArray, List.set_cons_zero, List.set_cons_succ]
  refine wpAnyH_ready (rs := [5]) (by kernel_rfl) (by simp) ?_
  refine AllReadyH.cons (o := { dst := some 22, op := Op.call { callee := Callee.value (Operand.func 11), args := #[Operand.tmp 17, Operand.tmp 21], argTypes := #[37, 30] }, type := 3, pos := _, after := #[{ on := 0, ground := Ground.data }, { on := 4, ground := Ground.data }], guard := none }) rfl (fun K hK => ?_) AllReadyH.nil
  go_simp
  refine (HXc.out _ trivial hHeld).mono ?_; rintro r w2 ⟨rfl, hb⟩; have hHeld := hHeld.trans (hb.mono hHeld.size)
  go_wp2_with fail
  refine hK.out _ _ ?_ (fun hHeld => ?_)
  · (try dsimp only); first | assumption | exact Below.alloc hHeld hHeld.size _ | exact (Below.refl _ _).drew | exact Below.drew (Below.refl _ _) | exact Below_drewN _ _ _ | exact Below.refl _ _ | (trace_state; fail)
  clear hK K
  try simp only [Act.put, List.setIfInBounds_toArray, List.set_cons_zero, List.set_cons_succ]
  refine wpAnyH_take (i := 6) (oi := { dst := some 6, op := Op.assign (Operand.tmp 22), type := 3, pos := _, after := #[{ on := 5, ground := Ground.data }, { on := 5, ground := Ground.chain }, { on := 0, ground := Ground.phase }, { on := 1, ground := Ground.phase }, { on := 2, ground := Ground.phase }, { on := 3, ground := Ground.phase }, { on := 4, ground := Ground.phase }, { on := 5, ground := Ground.phase }], guard := none }) (v := ?_) rfl (by kernel_rfl) (by kernel_rfl) (by kernel_rfl) (fun _ _ _ h => h) (Or.inl ⟨by rfl, ?_⟩) (by assumption) ?_
  rotate_left
  · intro wt hSw; (try dsimp only at hSw); have s0 := cellB hSw s0 z0; have s1 := cellB hSw s1 z0; have s2 := cellB hSw s2 z0; have s3 := cellB hSw s3 z0; have g4 := cellB hSw g4 z1; have d0 := cellB hSw d0 zb; have d1 := cellB hSw d1 zb; have d2 := cellB hSw d2 zb; have d3 := cellB hSw d3 zb; have d4 := cellB hSw d4 zb; first | (go_simp; done) | (go_simp; with_reducible rfl) | (trace_state; fail)
  try simp only [Act.put, List.setIfInBounds_toArray, List.set_cons_zero, List.set_cons_succ]
  refine wpAnyH_done (by kernel_rfl) ?_ _
  have HHw := Lib.hid (HB0.out.trans (hHeld.mono HB0.out.size))
  have p0 := cellB hHeld g0 z1
  have p1 := cellB hHeld g1 z1
  have p2 := cellB hHeld g2 z1
  have p3 := cellB hHeld g3 z1
  have p4 := cellB hHeld g4 z1
  clear s1 s2 s3 d0 d1 d2 d3 d4
  by_cases hT : T = 0
  · subst hT
    have hres := Lib.hid (show Z = 0 by rw [← HZ.out]; simp)
    clear hHeld
    go_wp2_with fail
    go_ret
    exact ⟨by rw [hres.out]; rfl, HHw.out⟩
  have eT : (T == 0) = false := by simpa using hT
  have hres := Lib.hid (show Z = 0 by rw [← HZ.out]; unfold singleT; simp [hT])
  clear hT
  go_upto_region 17 with fail
  refine wp_region_held_drew (S := (fun w' => Below W0.heap.size W0 w')) (by kernel_rfl) ?_ (fun hHeld => ?_)
  · (try dsimp only); first | exact Below.drew hHeld | assumption | (trace_state; fail)
  refine wpAnyH_take (i := 0) (oi := { dst := some 77, op := Op.move (Operand.tmp 5), type := 3, pos := _, after := #[], guard := none }) (v := ?_) rfl (by kernel_rfl) (by kernel_rfl) (by kernel_rfl) (fun _ _ _ h => h) (Or.inl ⟨by rfl, ?_⟩) (by assumption) ?_
  rotate_left
  · intro wt hSw; (try dsimp only at hSw); have s0 := cellB hSw s0 z0; have g0 := cellB hSw g0 z1; have g1 := cellB hSw g1 z1; have g2 := cellB hSw g2 z1; have g3 := cellB hSw g3 z1; first | (go_simp; done) | (go_simp; with_reducible rfl) | (trace_state; fail)
  try simp only [Act.put, List.setIfInBounds_toArray, List.set_cons_zero, List.set_cons_succ]
  refine wpAnyH_take (i := 1) (oi := { dst := some 78, op := Op.fieldAddr 30 (Operand.tmp 3) 0, type := 0, pos := _, after := #[], guard := none }) (v := ?_) rfl (by kernel_rfl) (by kernel_rfl) (by kernel_rfl) (fun _ _ _ h => h) (Or.inl ⟨by rfl, ?_⟩) (by assumption) ?_
  rotate_left
  · intro wt hSw; (try dsimp only at hSw); have s0 := cellB hSw s0 z0; have g0 := cellB hSw g0 z1; have g1 := cellB hSw g1 z1; have g2 := cellB hSw g2 z1; have g3 := cellB hSw g3 z1; first | (go_simp; done) | (go_simp; with_reducible rfl) | (trace_state; fail)
  try simp only [Act.put, List.setIfInBounds_toArray, List.set_cons_zero, List.set_cons_succ]
  refine wpAnyH_take (i := 2) (oi := { dst := some 79, op := Op.load 3 (Operand.tmp 78), type := 3, pos := _, after := #[{ on := 1, ground := Ground.data }], guard := none }) (v := ?_) rfl (by kernel_rfl) (by kernel_rfl) (by kernel_rfl) (fun _ _ _ h => h) (Or.inl ⟨by rfl, ?_⟩) (by assumption) ?_
  rotate_left
  · intro wt hSw; (try dsimp only at hSw); have s0 := cellB hSw s0 z0; have g0 := cellB hSw g0 z1; have g1 := cellB hSw g1 z1; have g2 := cellB hSw g2 z1; have g3 := cellB hSw g3 z1; first | (go_simp; done) | (go_simp; with_reducible rfl) | (trace_state; fail)
  try simp only [Act.put, List.setIfInBounds_toArray, List.set_cons_zero, List.set_cons_succ]
  refine wpAnyH_take (i := 3) (oi := { dst := some 80, op := Op.binOp BinOp.sub 3 (Operand.tmp 79) (Operand.const (Value.int IntKind.i64 2)) 3, type := 3, pos := _, after := #[{ on := 2, ground := Ground.data }], guard := none }) (v := ?_) rfl (by kernel_rfl) (by kernel_rfl) (by kernel_rfl) (fun _ _ _ h => h) (Or.inl ⟨by rfl, ?_⟩) (by assumption) ?_
  rotate_left
  · intro wt hSw; (try dsimp only at hSw); have s0 := cellB hSw s0 z0; have g0 := cellB hSw g0 z1; have g1 := cellB hSw g1 z1; have g2 := cellB hSw g2 z1; have g3 := cellB hSw g3 z1; first | (go_simp; done) | (go_simp; with_reducible rfl) | (trace_state; fail)
  try simp only [Act.put, List.setIfInBounds_toArray, List.set_cons_zero, List.set_cons_succ]
  refine wpAnyH_take (i := 4) (oi := { dst := some 81, op := Op.binOp BinOp.quo 3 (Operand.tmp 80) (Operand.const (Value.int IntKind.i64 2)) 3, type := 3, pos := _, after := #[{ on := 3, ground := Ground.data }], guard := none }) (v := ?_) rfl (by kernel_rfl) (by kernel_rfl) (by kernel_rfl) (fun _ _ _ h => h) (Or.inl ⟨by rfl, ?_⟩) (by assumption) ?_
  rotate_left
  · intro wt hSw; (try dsimp only at hSw); have s0 := cellB hSw s0 z0; have g0 := cellB hSw g0 z1; have g1 := cellB hSw g1 z1; have g2 := cellB hSw g2 z1; have g3 := cellB hSw g3 z1; first | (go_simp; done) | (go_simp; with_reducible rfl) | (trace_state; fail)
  try simp only [Act.put, List.setIfInBounds_toArray, List.set_cons_zero, List.set_cons_succ]
  refine wpAnyH_take (i := 5) (oi := { dst := some 82, op := Op.binOp BinOp.eql 3 (Operand.tmp 77) (Operand.tmp 81) 3, type := 4, pos := _, after := #[{ on := 0, ground := Ground.data }, { on := 4, ground := Ground.data }], guard := none }) (v := ?_) rfl (by kernel_rfl) (by kernel_rfl) (by kernel_rfl) (fun _ _ _ h => h) (Or.inl ⟨by rfl, ?_⟩) (by assumption) ?_
  rotate_left
  · intro wt hSw; (try dsimp only at hSw); have s0 := cellB hSw s0 z0; have g0 := cellB hSw g0 z1; have g1 := cellB hSw g1 z1; have g2 := cellB hSw g2 z1; have g3 := cellB hSw g3 z1; first | (go_simp; done) | (go_simp; with_reducible rfl) | (trace_state; fail)
  try simp only [Act.put, List.setIfInBounds_toArray, List.set_cons_zero, List.set_cons_succ]
  refine wpAnyH_take (i := 6) (oi := { dst := some 83, op := Op.move (Operand.tmp 82), type := 4, pos := _, after := #[{ on := 5, ground := Ground.data }], guard := none }) (v := ?_) rfl (by kernel_rfl) (by kernel_rfl) (by kernel_rfl) (fun _ _ _ h => h) (Or.inl ⟨by rfl, ?_⟩) (by assumption) ?_
  rotate_left
  · intro wt hSw; (try dsimp only at hSw); have s0 := cellB hSw s0 z0; have g0 := cellB hSw g0 z1; have g1 := cellB hSw g1 z1; have g2 := cellB hSw g2 z1; have g3 := cellB hSw g3 z1; first | (go_simp; done) | (go_simp; with_reducible rfl) | (trace_state; fail)
  try simp only [Act.put, List.setIfInBounds_toArray, List.set_cons_zero, List.set_cons_succ]
  refine wpAnyH_take (i := 7) (oi := { dst := some 84, op := Op.fieldAddr 30 (Operand.tmp 3) 1, type := 0, pos := _, after := #[{ on := 6, ground := Ground.guard }], guard := some (6, true) }) (v := undef) rfl (by kernel_rfl) (by kernel_rfl) (by kernel_rfl) (fun _ _ _ h => h) (Or.inr ⟨by rfl, rfl⟩) (by assumption) ?_
  try simp only [Act.put, List.setIfInBounds_toArray, List.set_cons_zero, List.set_cons_succ]
  refine wpAnyH_take (i := 8) (oi := { dst := some 85, op := Op.load 3 (Operand.tmp 84), type := 3, pos := _, after := #[{ on := 7, ground := Ground.data }, { on := 6, ground := Ground.guard }], guard := some (6, true) }) (v := undef) rfl (by kernel_rfl) (by kernel_rfl) (by kernel_rfl) (fun _ _ _ h => h) (Or.inr ⟨by rfl, rfl⟩) (by assumption) ?_
  try simp only [Act.put, List.setIfInBounds_toArray, List.set_cons_zero, List.set_cons_succ]
  refine wpAnyH_take (i := 9) (oi := { dst := some 86, op := Op.binOp BinOp.eql 3 (Operand.tmp 85) (Operand.const (Value.int IntKind.i64 0)) 3, type := 4, pos := _, after := #[{ on := 8, ground := Ground.data }, { on := 6, ground := Ground.guard }], guard := some (6, true) }) (v := undef) rfl (by kernel_rfl) (by kernel_rfl) (by kernel_rfl) (fun _ _ _ h => h) (Or.inr ⟨by rfl, rfl⟩) (by assumption) ?_
  try simp only [Act.put, List.setIfInBounds_toArray, List.set_cons_zero, List.set_cons_succ]
  refine wpAnyH_take (i := 10) (oi := { dst := some 87, op := Op.pick (Operand.tmp 83) (Operand.tmp 86) (Operand.const (Value.bool false)), type := 4, pos := _, after := #[{ on := 6, ground := Ground.data }, { on := 9, ground := Ground.data }], guard := none }) (v := ?_) rfl (by kernel_rfl) (by kernel_rfl) (by kernel_rfl) (fun _ _ _ h => h) (Or.inl ⟨by rfl, ?_⟩) (by assumption) ?_
  rotate_left
  · intro wt hSw; (try dsimp only at hSw); have s0 := cellB hSw s0 z0; have g0 := cellB hSw g0 z1; have g1 := cellB hSw g1 z1; have g2 := cellB hSw g2 z1; have g3 := cellB hSw g3 z1; first | (go_simp; done) | (go_simp; with_reducible rfl) | (trace_state; fail)
  try simp only [Act.put, List.setIfInBounds_toArray, List.set_cons_zero, List.set_cons_succ]
  refine wpAnyH_take (i := 11) (oi := { dst := some 88, op := Op.move (Operand.tmp 87), type := 4, pos := _, after := #[{ on := 10, ground := Ground.data }, { on := 6, ground := Ground.chain }], guard := none }) (v := ?_) rfl (by kernel_rfl) (by kernel_rfl) (by kernel_rfl) (fun _ _ _ h => h) (Or.inl ⟨by rfl, ?_⟩) (by assumption) ?_
  rotate_left
  · intro wt hSw; (try dsimp only at hSw); have s0 := cellB hSw s0 z0; have g0 := cellB hSw g0 z1; have g1 := cellB hSw g1 z1; have g2 := cellB hSw g2 z1; have g3 := cellB hSw g3 z1; first | (go_simp; done) | (go_simp; with_reducible rfl) | (trace_state; fail)
  try simp only [Act.put, List.setIfInBounds_toArray, List.set_cons_zero, List.set_cons_succ]
  refine wpAnyH_take (i := 12) (oi := { dst := some 89, op := Op.fieldAddr 30 (Operand.tmp 3) 3, type := 0, pos := _, after := #[{ on := 11, ground := Ground.guard }], guard := some (11, true) }) (v := undef) rfl (by kernel_rfl) (by kernel_rfl) (by kernel_rfl) (fun _ _ _ h => h) (Or.inr ⟨by rfl, rfl⟩) (by assumption) ?_
  try simp only [Act.put, List.setIfInBounds_toArray, List.set_cons_zero, List.set_cons_succ]
  refine wpAnyH_take (i := 13) (oi := { dst := some 90, op := Op.load 3 (Operand.tmp 89), type := 3, pos := _, after := #[{ on := 12, ground := Ground.data }, { on := 11, ground := Ground.guard }], guard := some (11, true) }) (v := undef) rfl (by kernel_rfl) (by kernel_rfl) (by kernel_rfl) (fun _ _ _ h => h) (Or.inr ⟨by rfl, rfl⟩) (by assumption) ?_
  try simp only [Act.put, List.setIfInBounds_toArray, List.set_cons_zero, List.set_cons_succ]
  refine wpAnyH_take (i := 14) (oi := { dst := some 91, op := Op.binOp BinOp.eql 3 (Operand.tmp 90) (Operand.const (Value.int IntKind.i64 0)) 3, type := 4, pos := _, after := #[{ on := 13, ground := Ground.data }, { on := 11, ground := Ground.guard }], guard := some (11, true) }) (v := undef) rfl (by kernel_rfl) (by kernel_rfl) (by kernel_rfl) (fun _ _ _ h => h) (Or.inr ⟨by rfl, rfl⟩) (by assumption) ?_
  try simp only [Act.put, List.setIfInBounds_toArray, List.set_cons_zero, List.set_cons_succ]
  refine wpAnyH_take (i := 15) (oi := { dst := some 92, op := Op.pick (Operand.tmp 88) (Operand.tmp 91) (Operand.const (Value.bool false)), type := 4, pos := _, after := #[{ on := 11, ground := Ground.data }, { on := 14, ground := Ground.data }], guard := none }) (v := ?_) rfl (by kernel_rfl) (by kernel_rfl) (by kernel_rfl) (fun _ _ _ h => h) (Or.inl ⟨by rfl, ?_⟩) (by assumption) ?_
  rotate_left
  · intro wt hSw; (try dsimp only at hSw); have s0 := cellB hSw s0 z0; have g0 := cellB hSw g0 z1; have g1 := cellB hSw g1 z1; have g2 := cellB hSw g2 z1; have g3 := cellB hSw g3 z1; first | (go_simp; done) | (go_simp; with_reducible rfl) | (trace_state; fail)
  try simp only [Act.put, List.setIfInBounds_toArray, List.set_cons_zero, List.set_cons_succ]
  refine wpAnyH_take (i := 16) (oi := { dst := some 93, op := Op.move (Operand.tmp 92), type := 4, pos := _, after := #[{ on := 15, ground := Ground.data }, { on := 11, ground := Ground.chain }], guard := none }) (v := ?_) rfl (by kernel_rfl) (by kernel_rfl) (by kernel_rfl) (fun _ _ _ h => h) (Or.inl ⟨by rfl, ?_⟩) (by assumption) ?_
  rotate_left
  · intro wt hSw; (try dsimp only at hSw); have s0 := cellB hSw s0 z0; have g0 := cellB hSw g0 z1; have g1 := cellB hSw g1 z1; have g2 := cellB hSw g2 z1; have g3 := cellB hSw g3 z1; first | (go_simp; done) | (go_simp; with_reducible rfl) | (trace_state; fail)
  try simp only [Act.put, List.setIfInBounds_toArray, List.set_cons_zero, List.set_cons_succ]
  refine wpAnyH_take (i := 17) (oi := { dst := some 94, op := Op.fieldAddr 30 (Operand.tmp 3) 2, type := 0, pos := _, after := #[{ on := 16, ground := Ground.guard }], guard := some (16, true) }) (v := undef) rfl (by kernel_rfl) (by kernel_rfl) (by kernel_rfl) (fun _ _ _ h => h) (Or.inr ⟨by rfl, rfl⟩) (by assumption) ?_
  try simp only [Act.put, List.setIfInBounds_toArray, List.set_cons_zero, List.set_cons_succ]
  refine wpAnyH_take (i := 18) (oi := { dst := some 95, op := Op.load 3 (Operand.tmp 94), type := 3, pos := _, after := #[{ on := 17, ground := Ground.data }, { on := 16, ground := Ground.guard }], guard := some (16, true) }) (v := undef) rfl (by kernel_rfl) (by kernel_rfl) (by kernel_rfl) (fun _ _ _ h => h) (Or.inr ⟨by rfl, rfl⟩) (by assumption) ?_
  try simp only [Act.put, List.setIfInBounds_toArray, List.set_cons_zero, List.set_cons_succ]
  refine wpAnyH_take (i := 19) (oi := { dst := some 96, op := Op.binOp BinOp.geq 3 (Operand.tmp 95) (Operand.const (Value.int IntKind.i64 0)) 3, type := 4, pos := _, after := #[{ on := 18, ground := Ground.data }, { on := 16, ground := Ground.guard }], guard := some (16, true) }) (v := undef) rfl (by kernel_rfl) (by kernel_rfl) (by kernel_rfl) (fun _ _ _ h => h) (Or.inr ⟨by rfl, rfl⟩) (by assumption) ?_
  try simp only [Act.put, List.setIfInBounds_toArray, List.set_cons_zero, List.set_cons_succ]
  refine wpAnyH_take (i := 20) (oi := { dst := some 97, op := Op.pick (Operand.tmp 93) (Operand.tmp 96) (Operand.const (Value.bool false)), type := 4, pos := _, after := #[{ on := 16, ground := Ground.data }, { on := 19, ground := Ground.data }], guard := none }) (v := ?_) rfl (by kernel_rfl) (by kernel_rfl) (by kernel_rfl) (fun _ _ _ h => h) (Or.inl ⟨by rfl, ?_⟩) (by assumption) ?_
  rotate_left
  · intro wt hSw; (try dsimp only at hSw); have s0 := cellB hSw s0 z0; have g0 := cellB hSw g0 z1; have g1 := cellB hSw g1 z1; have g2 := cellB hSw g2 z1; have g3 := cellB hSw g3 z1; first | (go_simp; done) | (go_simp; with_reducible rfl) | (trace_state; fail)
  try simp only [Act.put, List.setIfInBounds_toArray, List.set_cons_zero, List.set_cons_succ]
  refine wpAnyH_take (i := 21) (oi := { dst := some 98, op := Op.move (Operand.tmp 97), type := 4, pos := _, after := #[{ on := 20, ground := Ground.data }, { on := 16, ground := Ground.chain }], guard := none }) (v := ?_) rfl (by kernel_rfl) (by kernel_rfl) (by kernel_rfl) (fun _ _ _ h => h) (Or.inl ⟨by rfl, ?_⟩) (by assumption) ?_
  rotate_left
  · intro wt hSw; (try dsimp only at hSw); have s0 := cellB hSw s0 z0; have g0 := cellB hSw g0 z1; have g1 := cellB hSw g1 z1; have g2 := cellB hSw g2 z1; have g3 := cellB hSw g3 z1; first | (go_simp; done) | (go_simp; with_reducible rfl) | (trace_state; fail)
  try simp only [Act.put, List.setIfInBounds_toArray, List.set_cons_zero, List.set_cons_succ]
  refine wpAnyH_take (i := 22) (oi := { dst := some 99, op := Op.fieldAddr 30 (Operand.tmp 3) 2, type := 0, pos := _, after := #[{ on := 21, ground := Ground.guard }], guard := some (21, true) }) (v := undef) rfl (by kernel_rfl) (by kernel_rfl) (by kernel_rfl) (fun _ _ _ h => h) (Or.inr ⟨by rfl, rfl⟩) (by assumption) ?_
  try simp only [Act.put, List.setIfInBounds_toArray, List.set_cons_zero, List.set_cons_succ]
  refine wpAnyH_take (i := 23) (oi := { dst := some 100, op := Op.load 3 (Operand.tmp 99), type := 3, pos := _, after := #[{ on := 22, ground := Ground.data }, { on := 21, ground := Ground.guard }], guard := some (21, true) }) (v := undef) rfl (by kernel_rfl) (by kernel_rfl) (by kernel_rfl) (fun _ _ _ h => h) (Or.inr ⟨by rfl, rfl⟩) (by assumption) ?_
  try simp only [Act.put, List.setIfInBounds_toArray, List.set_cons_zero, List.set_cons_succ]
  refine wpAnyH_take (i := 24) (oi := { dst := some 101, op := Op.fieldAddr 37 (Operand.tmp 2) 0, type := 0, pos := _, after := #[{ on := 21, ground := Ground.guard }], guard := some (21, true) }) (v := undef) rfl (by kernel_rfl) (by kernel_rfl) (by kernel_rfl) (fun _ _ _ h => h) (Or.inr ⟨by rfl, rfl⟩) (by assumption) ?_
  try simp only [Act.put, List.setIfInBounds_toArray, List.set_cons_zero, List.set_cons_succ]
  refine wpAnyH_take (i := 25) (oi := { dst := some 102, op := Op.load 23 (Operand.tmp 101), type := 23, pos := _, after := #[{ on := 24, ground := Ground.data }, { on := 21, ground := Ground.guard }], guard := some (21, true) }) (v := undef) rfl (by kernel_rfl) (by kernel_rfl) (by kernel_rfl) (fun _ _ _ h => h) (Or.inr ⟨by rfl, rfl⟩) (by assumption) ?_
  try simp only [Act.put, List.setIfInBounds_toArray, List.set_cons_zero, List.set_cons_succ]
  refine wpAnyH_take (i := 26) (oi := { dst := some 103, op := Op.call { callee := Callee.builtin Builtin.len, args := #[Operand.tmp 102], argTypes := #[23] }, type := 3, pos := _, after := #[{ on := 25, ground := Ground.data }, { on := 21, ground := Ground.guard }], guard := some (21, true) }) (v := undef) rfl (by kernel_rfl) (by kernel_rfl) (by kernel_rfl) (fun _ _ _ h => h) (Or.inr ⟨by rfl, rfl⟩) (by assumption) ?_
  try simp only [Act.put, List.setIfInBounds_toArray, List.set_cons_zero, List.set_cons_succ]
  refine wpAnyH_take (i := 27) (oi := { dst := some 104, op := Op.binOp BinOp.lss 3 (Operand.tmp 100) (Operand.tmp 103) 3, type := 4, pos := _, after := #[{ on := 23, ground := Ground.data }, { on := 26, ground := Ground.data }, { on := 21, ground := Ground.guard }], guard := some (21, true) }) (v := undef) rfl (by kernel_rfl) (by kernel_rfl) (by kernel_rfl) (fun _ _ _ h => h) (Or.inr ⟨by rfl, rfl⟩) (by assumption) ?_
  try simp only [Act.put, List.setIfInBounds_toArray, List.set_cons_zero, List.set_cons_succ]
  refine wpAnyH_take (i := 28) (oi := { dst := some 105, op := Op.pick (Operand.tmp 98) (Operand.tmp 104) (Operand.const (Value.bool false)), type := 4, pos := _, after := #[{ on := 21, ground := Ground.data }, { on := 27, ground := Ground.data }], guard := none }) (v := ?_) rfl (by kernel_rfl) (by kernel_rfl) (by kernel_rfl) (fun _ _ _ h => h) (Or.inl ⟨by rfl, ?_⟩) (by assumption) ?_
  rotate_left
  · intro wt hSw; (try dsimp only at hSw); have s0 := cellB hSw s0 z0; have g0 := cellB hSw g0 z1; have g1 := cellB hSw g1 z1; have g2 := cellB hSw g2 z1; have g3 := cellB hSw g3 z1; first | (go_simp; done) | (go_simp; with_reducible rfl) | (trace_state; fail)
  try simp only [Act.put, List.setIfInBounds_toArray, List.set_cons_zero, List.set_cons_succ]
  refine wpAnyH_take (i := 29) (oi := { dst := some 106, op := Op.move (Operand.tmp 105), type := 4, pos := _, after := #[{ on := 28, ground := Ground.data }, { on := 21, ground := Ground.chain }], guard := none }) (v := ?_) rfl (by kernel_rfl) (by kernel_rfl) (by kernel_rfl) (fun _ _ _ h => h) (Or.inl ⟨by rfl, ?_⟩) (by assumption) ?_
  rotate_left
  · intro wt hSw; (try dsimp only at hSw); have s0 := cellB hSw s0 z0; have g0 := cellB hSw g0 z1; have g1 := cellB hSw g1 z1; have g2 := cellB hSw g2 z1; have g3 := cellB hSw g3 z1; first | (go_simp; done) | (go_simp; with_reducible rfl) | (trace_state; fail)
  try simp only [Act.put, List.setIfInBounds_toArray, List.set_cons_zero, List.set_cons_succ]
  refine wpAnyH_take (i := 30) (oi := { dst := some 107, op := Op.fieldAddr 37 (Operand.tmp 2) 0, type := 0, pos := _, after := #[{ on := 29, ground := Ground.guard }], guard := some (29, true) }) (v := undef) rfl (by kernel_rfl) (by kernel_rfl) (by kernel_rfl) (fun _ _ _ h => h) (Or.inr ⟨by rfl, rfl⟩) (by assumption) ?_
  try simp only [Act.put, List.setIfInBounds_toArray, List.set_cons_zero, List.set_cons_succ]
  refine wpAnyH_take (i := 31) (oi := { dst := some 108, op := Op.load 23 (Operand.tmp 107), type := 23, pos := _, after := #[{ on := 30, ground := Ground.data }, { on := 29, ground := Ground.guard }], guard := some (29, true) }) (v := undef) rfl (by kernel_rfl) (by kernel_rfl) (by kernel_rfl) (fun _ _ _ h => h) (Or.inr ⟨by rfl, rfl⟩) (by assumption) ?_
  try simp only [Act.put, List.setIfInBounds_toArray, List.set_cons_zero, List.set_cons_succ]
  refine wpAnyH_take (i := 32) (oi := { dst := some 109, op := Op.fieldAddr 30 (Operand.tmp 3) 2, type := 0, pos := _, after := #[{ on := 29, ground := Ground.guard }], guard := some (29, true) }) (v := undef) rfl (by kernel_rfl) (by kernel_rfl) (by kernel_rfl) (fun _ _ _ h => h) (Or.inr ⟨by rfl, rfl⟩) (by assumption) ?_
  try simp only [Act.put, List.setIfInBounds_toArray, List.set_cons_zero, List.set_cons_succ]
  refine wpAnyH_take (i := 33) (oi := { dst := some 110, op := Op.load 3 (Operand.tmp 109), type := 3, pos := _, after := #[{ on := 32, ground := Ground.data }, { on := 29, ground := Ground.guard }], guard := some (29, true) }) (v := undef) rfl (by kernel_rfl) (by kernel_rfl) (by kernel_rfl) (fun _ _ _ h => h) (Or.inr ⟨by rfl, rfl⟩) (by assumption) ?_
  try simp only [Act.put, List.setIfInBounds_toArray, List.set_cons_zero, List.set_cons_succ]
  refine wpAnyH_take (i := 34) (oi := { dst := some 111, op := Op.indexAddr 23 (Operand.tmp 108) (Operand.tmp 110), type := 0, pos := _, after := #[{ on := 31, ground := Ground.data }, { on := 33, ground := Ground.data }, { on := 29, ground := Ground.guard }], guard := some (29, true) }) (v := undef) rfl (by kernel_rfl) (by kernel_rfl) (by kernel_rfl) (fun _ _ _ h => h) (Or.inr ⟨by rfl, rfl⟩) (by assumption) ?_
  try simp only [Act.put, List.setIfInBounds_toArray, List.set_cons_zero, List.set_cons_succ]
  refine wpAnyH_take (i := 35) (oi := { dst := some 112, op := Op.fieldAddr 45 (Operand.tmp 111) 2, type := 0, pos := _, after := #[{ on := 34, ground := Ground.data }, { on := 29, ground := Ground.guard }], guard := some (29, true) }) (v := undef) rfl (by kernel_rfl) (by kernel_rfl) (by kernel_rfl) (fun _ _ _ h => h) (Or.inr ⟨by rfl, rfl⟩) (by assumption) ?_
  try simp only [Act.put, List.setIfInBounds_toArray, List.set_cons_zero, List.set_cons_succ]
  refine wpAnyH_take (i := 36) (oi := { dst := some 113, op := Op.load 3 (Operand.tmp 112), type := 3, pos := _, after := #[{ on := 35, ground := Ground.data }, { on := 29, ground := Ground.guard }], guard := some (29, true) }) (v := undef) rfl (by kernel_rfl) (by kernel_rfl) (by kernel_rfl) (fun _ _ _ h => h) (Or.inr ⟨by rfl, rfl⟩) (by assumption) ?_
  try simp only [Act.put, List.setIfInBounds_toArray, List.set_cons_zero, List.set_cons_succ]
  refine wpAnyH_take (i := 37) (oi := { dst := some 114, op := Op.binOp BinOp.gtr 3 (Operand.tmp 113) (Operand.const (Value.int IntKind.i64 1)) 3, type := 4, pos := _, after := #[{ on := 36, ground := Ground.data }, { on := 29, ground := Ground.guard }], guard := some (29, true) }) (v := undef) rfl (by kernel_rfl) (by kernel_rfl) (by kernel_rfl) (fun _ _ _ h => h) (Or.inr ⟨by rfl, rfl⟩) (by assumption) ?_
  try simp only [Act.put, List.setIfInBounds_toArray, List.set_cons_zero, List.set_cons_succ]
  refine wpAnyH_take (i := 38) (oi := { dst := some 115, op := Op.fieldAddr 30 (Operand.tmp 3) 0, type := 0, pos := _, after := #[{ on := 29, ground := Ground.guard }], guard := some (29, true) }) (v := undef) rfl (by kernel_rfl) (by kernel_rfl) (by kernel_rfl) (fun _ _ _ h => h) (Or.inr ⟨by rfl, rfl⟩) (by assumption) ?_
  try simp only [Act.put, List.setIfInBounds_toArray, List.set_cons_zero, List.set_cons_succ]
  refine wpAnyH_take (i := 39) (oi := { dst := some 116, op := Op.load 3 (Operand.tmp 115), type := 3, pos := _, after := #[{ on := 38, ground := Ground.data }, { on := 29, ground := Ground.guard }], guard := some (29, true) }) (v := undef) rfl (by kernel_rfl) (by kernel_rfl) (by kernel_rfl) (fun _ _ _ h => h) (Or.inr ⟨by rfl, rfl⟩) (by assumption) ?_
  try simp only [Act.put, List.setIfInBounds_toArray, List.set_cons_zero, List.set_cons_succ]
  refine wpAnyH_take (i := 40) (oi := { dst := some 117, op := Op.binOp BinOp.eql 3 (Operand.tmp 116) (Operand.const (Value.int IntKind.i64 4)) 3, type := 4, pos := _, after := #[{ on := 39, ground := Ground.data }, { on := 29, ground := Ground.guard }], guard := some (29, true) }) (v := undef) rfl (by kernel_rfl) (by kernel_rfl) (by kernel_rfl) (fun _ _ _ h => h) (Or.inr ⟨by rfl, rfl⟩) (by assumption) ?_
  try simp only [Act.put, List.setIfInBounds_toArray, List.set_cons_zero, List.set_cons_succ]
  refine wpAnyH_take (i := 41) (oi := { dst := some 118, op := Op.binOp BinOp.eql 4 (Operand.tmp 114) (Operand.tmp 117) 4, type := 4, pos := _, after := #[{ on := 37, ground := Ground.data }, { on := 40, ground := Ground.data }, { on := 29, ground := Ground.guard }], guard := some (29, true) }) (v := undef) rfl (by kernel_rfl) (by kernel_rfl) (by kernel_rfl) (fun _ _ _ h => h) (Or.inr ⟨by rfl, rfl⟩) (by assumption) ?_
  try simp only [Act.put, List.setIfInBounds_toArray, List.set_cons_zero, List.set_cons_succ]
  refine wpAnyH_take (i := 42) (oi := { dst := some 119, op := Op.pick (Operand.tmp 106) (Operand.tmp 118) (Operand.const (Value.bool false)), type := 4, pos := _, after := #[{ on := 29, ground := Ground.data }, { on := 41, ground := Ground.data }], guard := none }) (v := ?_) rfl (by kernel_rfl) (by kernel_rfl) (by kernel_rfl) (fun _ _ _ h => h) (Or.inl ⟨by rfl, ?_⟩) (by assumption) ?_
  rotate_left
  · intro wt hSw; (try dsimp only at hSw); have s0 := cellB hSw s0 z0; have g0 := cellB hSw g0 z1; have g1 := cellB hSw g1 z1; have g2 := cellB hSw g2 z1; have g3 := cellB hSw g3 z1; first | (go_simp; done) | (go_simp; with_reducible rfl) | (trace_state; fail)
  try simp only [Act.put, List.setIfInBounds_toArray, List.set_cons_zero, List.set_cons_succ]
  refine wpAnyH_take (i := 43) (oi := { dst := some 120, op := Op.move (Operand.tmp 119), type := 4, pos := _, after := #[{ on := 42, ground := Ground.data }, { on := 29, ground := Ground.chain }], guard := none }) (v := ?_) rfl (by kernel_rfl) (by kernel_rfl) (by kernel_rfl) (fun _ _ _ h => h) (Or.inl ⟨by rfl, ?_⟩) (by assumption) ?_
  rotate_left
  · intro wt hSw; (try dsimp only at hSw); have s0 := cellB hSw s0 z0; have g0 := cellB hSw g0 z1; have g1 := cellB hSw g1 z1; have g2 := cellB hSw g2 z1; have g3 := cellB hSw g3 z1; first | (go_simp; done) | (go_simp; with_reducible rfl) | (trace_state; fail)
  try simp only [Act.put, List.setIfInBounds_toArray, List.set_cons_zero, List.set_cons_succ]
  refine wpAnyH_take (i := 44) (oi := { dst := some 121, op := Op.move (Operand.tmp 5), type := 3, pos := _, after := #[{ on := 43, ground := Ground.guard }], guard := some (43, true) }) (v := undef) rfl (by kernel_rfl) (by kernel_rfl) (by kernel_rfl) (fun _ _ _ h => h) (Or.inr ⟨by rfl, rfl⟩) (by assumption) ?_
  try simp only [Act.put, List.setIfInBounds_toArray, List.set_cons_zero, List.set_cons_succ]
  refine wpAnyH_take (i := 45) (oi := { dst := some 122, op := Op.binOp BinOp.eql 3 (Operand.tmp 121) (Operand.const (Value.int IntKind.i64 0)) 3, type := 4, pos := _, after := #[{ on := 44, ground := Ground.data }, { on := 43, ground := Ground.guard }], guard := some (43, true) }) (v := undef) rfl (by kernel_rfl) (by kernel_rfl) (by kernel_rfl) (fun _ _ _ h => h) (Or.inr ⟨by rfl, rfl⟩) (by assumption) ?_
  try simp only [Act.put, List.setIfInBounds_toArray, List.set_cons_zero, List.set_cons_succ]
  refine wpAnyH_take (i := 46) (oi := { dst := some 123, op := Op.move (Operand.tmp 122), type := 4, pos := _, after := #[{ on := 45, ground := Ground.data }, { on := 43, ground := Ground.chain }, { on := 43, ground := Ground.guard }], guard := some (43, true) }) (v := undef) rfl (by kernel_rfl) (by kernel_rfl) (by kernel_rfl) (fun _ _ _ h => h) (Or.inr ⟨by rfl, rfl⟩) (by assumption) ?_
  try simp only [Act.put, List.setIfInBounds_toArray, List.set_cons_zero, List.set_cons_succ]
  refine wpAnyH_take (i := 47) (oi := { dst := some 124, op := Op.move (Operand.tmp 6), type := 3, pos := _, after := #[{ on := 46, ground := Ground.guard }], guard := some (46, false) }) (v := undef) rfl (by kernel_rfl) (by kernel_rfl) (by kernel_rfl) (fun _ _ _ h => h) (Or.inr ⟨by rfl, rfl⟩) (by assumption) ?_
  try simp only [Act.put, List.setIfInBounds_toArray, List.set_cons_zero, List.set_cons_succ]
  refine wpAnyH_take (i := 48) (oi := { dst := some 125, op := Op.binOp BinOp.eql 3 (Operand.tmp 124) (Operand.const (Value.int IntKind.i64 2)) 3, type := 4, pos := _, after := #[{ on := 47, ground := Ground.data }, { on := 46, ground := Ground.guard }], guard := some (46, false) }) (v := undef) rfl (by kernel_rfl) (by kernel_rfl) (by kernel_rfl) (fun _ _ _ h => h) (Or.inr ⟨by rfl, rfl⟩) (by assumption) ?_
  try simp only [Act.put, List.setIfInBounds_toArray, List.set_cons_zero, List.set_cons_succ]
  refine wpAnyH_take (i := 49) (oi := { dst := some 126, op := Op.pick (Operand.tmp 123) (Operand.const (Value.bool true)) (Operand.tmp 125), type := 4, pos := _, after := #[{ on := 46, ground := Ground.data }, { on := 48, ground := Ground.data }, { on := 43, ground := Ground.guard }], guard := some (43, true) }) (v := undef) rfl (by kernel_rfl) (by kernel_rfl) (by kernel_rfl) (fun _ _ _ h => h) (Or.inr ⟨by rfl, rfl⟩) (by assumption) ?_
  try simp only [Act.put, List.setIfInBounds_toArray, List.set_cons_zero, List.set_cons_succ]
  refine wpAnyH_take (i := 50) (oi := { dst := some 127, op := Op.pick (Operand.tmp 120) (Operand.tmp 126) (Operand.const (Value.bool false)), type := 4, pos := _, after := #[{ on := 43, ground := Ground.data }, { on := 49, ground := Ground.data }], guard := none }) (v := ?_) rfl (by kernel_rfl) (by kernel_rfl) (by kernel_rfl) (fun _ _ _ h => h) (Or.inl ⟨by rfl, ?_⟩) (by assumption) ?_
  rotate_left
  · intro wt hSw; (try dsimp only at hSw); have s0 := cellB hSw s0 z0; have g0 := cellB hSw g0 z1; have g1 := cellB hSw g1 z1; have g2 := cellB hSw g2 z1; have g3 := cellB hSw g3 z1; first | (go_simp; done) | (go_simp; with_reducible rfl) | (trace_state; fail)
  try simp only [Act.put, List.setIfInBounds_toArray, List.set_cons_zero, List.set_cons_succ]
  refine wpAnyH_done (by kernel_rfl) ?_ _
  have HHw := Lib.hid (HB0.out.trans (hHeld.mono HB0.out.size))
  clear p0 p1 p2 p3 p4
  have g0 := cellB hHeld g0 z1
  have g1 := cellB hHeld g1 z1
  have g2 := cellB hHeld g2 z1
  have g3 := cellB hHeld g3 z1
  have g4 := cellB hHeld g4 z1
  have s0 := cellB hHeld s0 z0
  clear hHeld
  go_wp2_with fail
  refine (hK0 _).mono ?_; rintro r w2 ⟨rfl, rfl⟩
  go_wp2_with fail
  go_ret
  exact ⟨by rw [hres.out]; rfl, HHw.out⟩
end Go.Proofs.YtpecpeedefeokaaDoor

/- Layer 26: the document's Type, of an expression with two within it. -/
namespace Go.Proofs.YtpecpeedefeokaaDoor
open Go.RowKit
set_option linter.unusedSimpArgs false
set_option linter.unusedVariables false
set_option maxRecDepth 100000 in
set_option maxHeartbeats 8000000 in
theorem ref26_Type2 (a b c d : Value) (s : Sc) (op t n m : Int) (x y : Ex) (v : Value) (w : World) (hs : ScAt w a b d s) (hc0 : ∃ p q k, c = .slice p q k) (hv : ExV w v ⟨op, t, n, m, [x, y]⟩) (hx : Typed w a b c d s x) (hy : Typed w a b c d s y) :
    Calls Tryd.prog 11 #[.agg #[a, b, c, d], v] w fun r w' => r = .returned (.int .i64 (if typeE s x = 0 ∨ typeE s y = 0 then 0 else doubleT ⟨op, t, n, m, [x, y]⟩ (typeE s x) (typeE s y))) ∧ Below w.heap.size w w' := by
  obtain ⟨sl, rfl, _, hrl⟩ := hv
  obtain ⟨sa, ca, rfl⟩ := row_get hs.vs
  obtain ⟨sb, cb, rfl⟩ := row_get hs.bs
  obtain ⟨sd, cd, rfl⟩ := row_get hs.ss
  obtain ⟨p, q, k, rfl⟩ := hc0
  have hlen := hrl.len
  obtain ⟨al, cl, rfl⟩ := row_get hrl
  have hcap := cap_row hrl (k := 0) (by simp)
  obtain ⟨b, off, s1, sn1, sc1, rfl, hbw, _, _, d0, d1, d2, d3, d4, hxv⟩ := ex_at hrl (k := 0) (x := x) rfl
  obtain ⟨b', off', s2, sn2, sc2, hbb, _, _, _, f0, f1, f2, f3, f4, hyv⟩ := ex_at hrl (k := 1) (x := y) rfl
  obtain ⟨rfl, rfl⟩ : b' = b ∧ off' = off := by simp at hbb; exact ⟨hbb.1.symm, hbb.2.symm⟩
  simp only [Nat.zero_mul, Nat.one_mul, Nat.add_zero] at d0 d1 d2 d3 d4 f0 f1 f2 f3 f4
  simp only [List.length_cons, List.length_nil, Nat.zero_add, Nat.reduceAdd] at hlen hcap ⊢
  have q0 : ((0 : Int) < (2 : Int)) = True := by decide
  have r0 : (0 < 2) = True := by decide
  have q1 : ((1 : Int) < (2 : Int)) = True := by decide
  have r1 : (1 < 2) = True := by decide
  obtain ⟨W0, hW0⟩ : ∃ W0, W0 = (w.alloc (.cells #[.slice sa s.vars.length ca, .slice sb s.blocks.length cb, .slice p q k, .slice sd s.slots.length cd] 37)).alloc (.cells #[.int .i64 op, .int .i64 t, .int .i64 n, .int .i64 m, .slice (some ⟨b', off', none⟩) 2 cl] 30) := ⟨_, rfl⟩
  have ho0 : W0.heap[w.heap.size]? = some (.cells #[.slice sa s.vars.length ca, .slice sb s.blocks.length cb, .slice p q k, .slice sd s.slots.length cd] 37) := by rw [hW0, get_past (by simp)]; exact get_last rfl
  have ho1 : W0.heap[w.heap.size + 1]? = some (.cells #[.int .i64 op, .int .i64 t, .int .i64 n, .int .i64 m, .slice (some ⟨b', off', none⟩) 2 cl] 30) := by rw [hW0]; exact get_last (by simp)
  have hbW : Below w.heap.size w W0 := by rw [hW0]; exact by (repeat' (first | (with_reducible exact Below.refl _ _) | (with_reducible assumption) | (with_reducible refine below_drewN ?_ _) | (with_reducible refine Below.alloc ?_ ?_ _) | (with_reducible refine Below.drew ?_) | (with_reducible refine Below.setCell ?_ ?_ _) | go_size))
  have HW0 := Lib.hid hW0
  have HB0 := Lib.hid hbW
  have z0 := heap_lt ho0
  have z1 := heap_lt ho1
  have zb : b' < W0.heap.size := Nat.lt_of_lt_of_le hbw hbW.size
  have s0 : W0.cell? ⟨w.heap.size, 0, none⟩ = some (.slice sa s.vars.length ca) := obj_cell ho0 (i := 0) rfl
  have s1 : W0.cell? ⟨w.heap.size, 1, none⟩ = some (.slice sb s.blocks.length cb) := obj_cell ho0 (i := 1) rfl
  have s2 : W0.cell? ⟨w.heap.size, 2, none⟩ = some (.slice p q k) := obj_cell ho0 (i := 2) rfl
  have s3 : W0.cell? ⟨w.heap.size, 3, none⟩ = some (.slice sd s.slots.length cd) := obj_cell ho0 (i := 3) rfl
  have g4 : W0.cell? ⟨w.heap.size + 1, 4, none⟩ = some (.slice (some ⟨b', off', none⟩) 2 cl) := obj_cell ho1 (i := 4) rfl
  have g0 : W0.cell? ⟨w.heap.size + 1, 0, none⟩ = some (.int .i64 op) := obj_cell ho1 (i := 0) rfl
  have g1 : W0.cell? ⟨w.heap.size + 1, 1, none⟩ = some (.int .i64 t) := obj_cell ho1 (i := 1) rfl
  have g2 : W0.cell? ⟨w.heap.size + 1, 2, none⟩ = some (.int .i64 n) := obj_cell ho1 (i := 2) rfl
  have g3 : W0.cell? ⟨w.heap.size + 1, 3, none⟩ = some (.int .i64 m) := obj_cell ho1 (i := 3) rfl
  have d0 := (hbW.cell (p := ⟨b', off', none⟩) hbw).trans d0
  have d1 := (hbW.cell (p := ⟨b', off' + 1, none⟩) hbw).trans d1
  have d2 := (hbW.cell (p := ⟨b', off' + 2, none⟩) hbw).trans d2
  have d3 := (hbW.cell (p := ⟨b', off' + 3, none⟩) hbw).trans d3
  have d4 := (hbW.cell (p := ⟨b', off' + 4, none⟩) hbw).trans d4
  have f0 := (hbW.cell (p := ⟨b', off' + 5, none⟩) hbw).trans f0
  have f1 := (hbW.cell (p := ⟨b', off' + 5 + 1, none⟩) hbw).trans f1
  have f2 := (hbW.cell (p := ⟨b', off' + 5 + 2, none⟩) hbw).trans f2
  have f3 := (hbW.cell (p := ⟨b', off' + 5 + 3, none⟩) hbw).trans f3
  have f4 := (hbW.cell (p := ⟨b', off' + 5 + 4, none⟩) hbw).trans f4
  have HXc := Lib.hid (fun W (_ : True) (h : Below W0.heap.size W0 W) => hx W _ (hbW.trans (h.mono hbW.size)) (hxv.below (hbW.trans (h.mono hbW.size))))
  have HYc := Lib.hid (fun W (_ : True) (h : Below W0.heap.size W0 W) => hy W _ (hbW.trans (h.mono hbW.size)) (hyv.below (hbW.trans (h.mono hbW.size))))
  generalize typeE s x = T at *
  generalize typeE s y = U at *
  clear hW0 hbW ho0 ho1 hx hy hxv hyv hs hrl hbb
  generalize hZ : (if T = 0 ∨ U = 0 then 0 else doubleT ⟨op, t, n, m, [x, y]⟩ T U) = Z
  have HZ := Lib.hid hZ
  clear hZ
  have hK0 := ref01_Right 0
  rw [show kRight 0 = false from rfl] at hK0
  go_enter Tryd.func11, Tryd.ntmps11
  go_upto_region 5 with fail
  rw [← HW0.out]
  refine wp_region_held_drew (S := (fun w' => Below W0.heap.size W0 w')) (by kernel_rfl) ?_ (fun hHeld => ?_)
  · (try dsimp only); first | assumption | exact Below.alloc hHeld hHeld.size _ | exact (Below.refl _ _).drew | exact Below.drew (Below.refl _ _) | exact Below_drewN _ _ _ | exact Below.refl _ _ | (trace_state; fail)
  refine wpAnyH_take (i := 0) (oi := { dst := some 17, op := Op.load 37 (Operand.tmp 2), type := 37, pos := _, after := #[], guard := none }) (v := ?_) rfl (by kernel_rfl) (by kernel_rfl) (by kernel_rfl) (fun _ _ _ h => h) (Or.inl ⟨by rfl, ?_⟩) (by assumption) ?_
  rotate_left
  · intro wt hSw; (try dsimp only at hSw); have s0 := cellB hSw s0 z0; have s1 := cellB hSw s1 z0; have s2 := cellB hSw s2 z0; have s3 := cellB hSw s3 z0; have g4 := cellB hSw g4 z1; have d0 := cellB hSw d0 zb; have d1 := cellB hSw d1 zb; have d2 := cellB hSw d2 zb; have d3 := cellB hSw d3 zb; have d4 := cellB hSw d4 zb; first | (go_simp; done) | (go_simp; with_reducible rfl) | (trace_state; fail)
  try simp only [Act.put, List.setIfInBounds_toArray, List.set_cons_zero, List.set_cons_succ]
  refine wpAnyH_take (i := 1) (oi := { dst := some 18, op := Op.fieldAddr 30 (Operand.tmp 3) 4, type := 0, pos := _, after := #[], guard := none }) (v := ?_) rfl (by kernel_rfl) (by kernel_rfl) (by kernel_rfl) (fun _ _ _ h => h) (Or.inl ⟨by rfl, ?_⟩) (by assumption) ?_
  rotate_left
  · intro wt hSw; (try dsimp only at hSw); have s0 := cellB hSw s0 z0; have s1 := cellB hSw s1 z0; have s2 := cellB hSw s2 z0; have s3 := cellB hSw s3 z0; have g4 := cellB hSw g4 z1; have d0 := cellB hSw d0 zb; have d1 := cellB hSw d1 zb; have d2 := cellB hSw d2 zb; have d3 := cellB hSw d3 zb; have d4 := cellB hSw d4 zb; first | (go_simp; done) | (go_simp; with_reducible rfl) | (trace_state; fail)
  try simp only [Act.put, List.setIfInBounds_toArray, List.set_cons_zero, List.set_cons_succ]
  refine wpAnyH_take (i := 2) (oi := { dst := some 19, op := Op.load 28 (Operand.tmp 18), type := 28, pos := _, after := #[{ on := 1, ground := Ground.data }], guard := none }) (v := ?_) rfl (by kernel_rfl) (by kernel_rfl) (by kernel_rfl) (fun _ _ _ h => h) (Or.inl ⟨by rfl, ?_⟩) (by assumption) ?_
  rotate_left
  · intro wt hSw; (try dsimp only at hSw); have s0 := cellB hSw s0 z0; have s1 := cellB hSw s1 z0; have s2 := cellB hSw s2 z0; have s3 := cellB hSw s3 z0; have g4 := cellB hSw g4 z1; have d0 := cellB hSw d0 zb; have d1 := cellB hSw d1 zb; have d2 := cellB hSw d2 zb; have d3 := cellB hSw d3 zb; have d4 := cellB hSw d4 zb; first | (go_simp; done) | (go_simp; with_reducible rfl) | (trace_state; fail)
  try simp only [Act.put, List.setIfInBounds_toArray, List.set_cons_zero, List.set_cons_succ]
  refine wpAnyH_take (i := 3) (oi := { dst := some 20, op := Op.indexAddr 28 (Operand.tmp 19) (Operand.const (Value.int IntKind.i64 0)), type := 0, pos := _, after := #[{ on := 2, ground := Ground.data }], guard := none }) (v := ?_) rfl (by kernel_rfl) (by kernel_rfl) (by kernel_rfl) (fun _ _ _ h => h) (Or.inl ⟨by rfl, ?_⟩) (by assumption) ?_
  rotate_left
  · intro wt hSw; (try dsimp only at hSw); have s0 := cellB hSw s0 z0; have s1 := cellB hSw s1 z0; have s2 := cellB hSw s2 z0; have s3 := cellB hSw s3 z0; have g4 := cellB hSw g4 z1; have d0 := cellB hSw d0 zb; have d1 := cellB hSw d1 zb; have d2 := cellB hSw d2 zb; have d3 := cellB hSw d3 zb; have d4 := cellB hSw d4 zb; first | (go_simp; done) | (go_simp; with_reducible rfl) | (trace_state; fail)
  try simp only [Act.put, List.setIfInBounds_toArray, List.set_cons_zero, List.set_cons_succ]
  refine wpAnyH_take (i := 4) (oi := { dst := some 21, op := Op.load 30 (Operand.tmp 20), type := 30, pos := _, after := #[{ on := 3, ground := Ground.data }], guard := none }) (v := ?_) rfl (by kernel_rfl) (by kernel_rfl) (by kernel_rfl) (fun _ _ _ h => h) (Or.inl ⟨by rfl, ?_⟩) (by assumption) ?_
  rotate_left
  · intro wt hSw; (try dsimp only at hSw); have s0 := cellB hSw s0 z0; have s1 := cellB hSw s1 z0; have s2 := cellB hSw s2 z0; have s3 := cellB hSw s3 z0; have g4 := cellB hSw g4 z1; have d0 := cellB hSw d0 zb; have d1 := cellB hSw d1 zb; have d2 := cellB hSw d2 zb; have d3 := cellB hSw d3 zb; have d4 := cellB hSw d4 zb; first | (go_simp; done) | (go_simp; with_reducible rfl) | (trace_state; fail)
  try simp only [Act.put, List.setIfInBounds_toArray, List.set_cons_zero, List.set_cons_succ]
  refine wpAnyH_ready (rs := [5]) (by kernel_rfl) (by simp) ?_
  refine AllReadyH.cons (o := { dst := some 22, op := Op.call { callee := Callee.value (Operand.func 11), args := #[Operand.tmp 17, Operand.tmp 21], argTypes := #[37, 30] }, type := 3, pos := _, after := #[{ on := 0, ground := Ground.data }, { on := 4, ground := Ground.data }], guard := none }) rfl (fun K hK => ?_) AllReadyH.nil
  go_simp
  refine (HXc.out _ trivial hHeld).mono ?_; rintro r w2 ⟨rfl, hb⟩; have hHeld := hHeld.trans (hb.mono hHeld.size)
  go_wp2_with fail
  refine hK.out _ _ ?_ (fun hHeld => ?_)
  · (try dsimp only); first | assumption | exact Below.alloc hHeld hHeld.size _ | exact (Below.refl _ _).drew | exact Below.drew (Below.refl _ _) | exact Below_drewN _ _ _ | exact Below.refl _ _ | (trace_state; fail)
  clear hK K
  try simp only [Act.put, List.setIfInBounds_toArray, List.set_cons_zero, List.set_cons_succ]
  refine wpAnyH_take (i := 6) (oi := { dst := some 6, op := Op.assign (Operand.tmp 22), type := 3, pos := _, after := #[{ on := 5, ground := Ground.data }, { on := 5, ground := Ground.chain }, { on := 0, ground := Ground.phase }, { on := 1, ground := Ground.phase }, { on := 2, ground := Ground.phase }, { on := 3, ground := Ground.phase }, { on := 4, ground := Ground.phase }, { on := 5, ground := Ground.phase }], guard := none }) (v := ?_) rfl (by kernel_rfl) (by kernel_rfl) (by kernel_rfl) (fun _ _ _ h => h) (Or.inl ⟨by rfl, ?_⟩) (by assumption) ?_
  rotate_left
  · intro wt hSw; (try dsimp only at hSw); have s0 := cellB hSw s0 z0; have s1 := cellB hSw s1 z0; have s2 := cellB hSw s2 z0; have s3 := cellB hSw s3 z0; have g4 := cellB hSw g4 z1; have d0 := cellB hSw d0 zb; have d1 := cellB hSw d1 zb; have d2 := cellB hSw d2 zb; have d3 := cellB hSw d3 zb; have d4 := cellB hSw d4 zb; first | (go_simp; done) | (go_simp; with_reducible rfl) | (trace_state; fail)
  try simp only [Act.put, List.setIfInBounds_toArray, List.set_cons_zero, List.set_cons_succ]
  refine wpAnyH_done (by kernel_rfl) ?_ _
  have g4 := g4
  go_upto_region 7 with fail
  refine wp_region_held_drew (S := (fun w' => Below W0.heap.size W0 w')) (by kernel_rfl) ?_ (fun hHeld => ?_)
  · (try dsimp only); first | exact Below.drew hHeld | assumption | (trace_state; fail)
  refine wpAnyH_take (i := 0) (oi := { dst := some 25, op := Op.load 37 (Operand.tmp 2), type := 37, pos := _, after := #[], guard := none }) (v := ?_) rfl (by kernel_rfl) (by kernel_rfl) (by kernel_rfl) (fun _ _ _ h => h) (Or.inl ⟨by rfl, ?_⟩) (by assumption) ?_
  rotate_left
  · intro wt hSw; (try dsimp only at hSw); have s0 := cellB hSw s0 z0; have s1 := cellB hSw s1 z0; have s2 := cellB hSw s2 z0; have s3 := cellB hSw s3 z0; have g4 := cellB hSw g4 z1; have f0 := cellB hSw f0 zb; have f1 := cellB hSw f1 zb; have f2 := cellB hSw f2 zb; have f3 := cellB hSw f3 zb; have f4 := cellB hSw f4 zb; first | (go_simp; done) | (go_simp; with_reducible rfl) | (trace_state; fail)
  try simp only [Act.put, List.setIfInBounds_toArray, List.set_cons_zero, List.set_cons_succ]
  refine wpAnyH_take (i := 1) (oi := { dst := some 26, op := Op.fieldAddr 30 (Operand.tmp 3) 4, type := 0, pos := _, after := #[], guard := none }) (v := ?_) rfl (by kernel_rfl) (by kernel_rfl) (by kernel_rfl) (fun _ _ _ h => h) (Or.inl ⟨by rfl, ?_⟩) (by assumption) ?_
  rotate_left
  · intro wt hSw; (try dsimp only at hSw); have s0 := cellB hSw s0 z0; have s1 := cellB hSw s1 z0; have s2 := cellB hSw s2 z0; have s3 := cellB hSw s3 z0; have g4 := cellB hSw g4 z1; have f0 := cellB hSw f0 zb; have f1 := cellB hSw f1 zb; have f2 := cellB hSw f2 zb; have f3 := cellB hSw f3 zb; have f4 := cellB hSw f4 zb; first | (go_simp; done) | (go_simp; with_reducible rfl) | (trace_state; fail)
  try simp only [Act.put, List.setIfInBounds_toArray, List.set_cons_zero, List.set_cons_succ]
  refine wpAnyH_take (i := 2) (oi := { dst := some 27, op := Op.load 28 (Operand.tmp 26), type := 28, pos := _, after := #[{ on := 1, ground := Ground.data }], guard := none }) (v := ?_) rfl (by kernel_rfl) (by kernel_rfl) (by kernel_rfl) (fun _ _ _ h => h) (Or.inl ⟨by rfl, ?_⟩) (by assumption) ?_
  rotate_left
  · intro wt hSw; (try dsimp only at hSw); have s0 := cellB hSw s0 z0; have s1 := cellB hSw s1 z0; have s2 := cellB hSw s2 z0; have s3 := cellB hSw s3 z0; have g4 := cellB hSw g4 z1; have f0 := cellB hSw f0 zb; have f1 := cellB hSw f1 zb; have f2 := cellB hSw f2 zb; have f3 := cellB hSw f3 zb; have f4 := cellB hSw f4 zb; first | (go_simp; done) | (go_simp; with_reducible rfl) | (trace_state; fail)
  try simp only [Act.put, List.setIfInBounds_toArray, List.set_cons_zero, List.set_cons_succ]
  refine wpAnyH_take (i := 3) (oi := { dst := some 28, op := Op.indexAddr 28 (Operand.tmp 27) (Operand.const (Value.int IntKind.i64 1)), type := 0, pos := _, after := #[{ on := 2, ground := Ground.data }], guard := none }) (v := ?_) rfl (by kernel_rfl) (by kernel_rfl) (by kernel_rfl) (fun _ _ _ h => h) (Or.inl ⟨by rfl, ?_⟩) (by assumption) ?_
  rotate_left
  · intro wt hSw; (try dsimp only at hSw); have s0 := cellB hSw s0 z0; have s1 := cellB hSw s1 z0; have s2 := cellB hSw s2 z0; have s3 := cellB hSw s3 z0; have g4 := cellB hSw g4 z1; have f0 := cellB hSw f0 zb; have f1 := cellB hSw f1 zb; have f2 := cellB hSw f2 zb; have f3 := cellB hSw f3 zb; have f4 := cellB hSw f4 zb; first | (go_simp; done) | (go_simp; with_reducible rfl) | (trace_state; fail)
  try simp only [Act.put, List.setIfInBounds_toArray, List.set_cons_zero, List.set_cons_succ]
  refine wpAnyH_take (i := 4) (oi := { dst := some 29, op := Op.load 30 (Operand.tmp 28), type := 30, pos := _, after := #[{ on := 3, ground := Ground.data }], guard := none }) (v := ?_) rfl (by kernel_rfl) (by kernel_rfl) (by kernel_rfl) (fun _ _ _ h => h) (Or.inl ⟨by rfl, ?_⟩) (by assumption) ?_
  rotate_left
  · intro wt hSw; (try dsimp only at hSw); have s0 := cellB hSw s0 z0; have s1 := cellB hSw s1 z0; have s2 := cellB hSw s2 z0; have s3 := cellB hSw s3 z0; have g4 := cellB hSw g4 z1; have f0 := cellB hSw f0 zb; have f1 := cellB hSw f1 zb; have f2 := cellB hSw f2 zb; have f3 := cellB hSw f3 zb; have f4 := cellB hSw f4 zb; first | (go_simp; done) | (go_simp; with_reducible rfl) | (trace_state; fail)
  try simp only [Act.put, List.setIfInBounds_toArray, List.set_cons_zero, List.set_cons_succ]
  refine wpAnyH_ready (rs := [5]) (by kernel_rfl) (by simp) ?_
  refine AllReadyH.cons (o := { dst := some 30, op := Op.call { callee := Callee.value (Operand.func 11), args := #[Operand.tmp 25, Operand.tmp 29], argTypes := #[37, 30] }, type := 3, pos := _, after := #[{ on := 0, ground := Ground.data }, { on := 4, ground := Ground.data }], guard := none }) rfl (fun K hK => ?_) AllReadyH.nil
  go_simp
  refine (HYc.out _ trivial hHeld).mono ?_; rintro r w2 ⟨rfl, hb⟩; have hHeld := hHeld.trans (hb.mono hHeld.size)
  go_wp2_with fail
  refine hK.out _ _ ?_ (fun hHeld => ?_)
  · (try dsimp only); first | exact Below.drew hHeld | assumption | (trace_state; fail)
  clear hK K
  try simp only [Act.put, List.setIfInBounds_toArray, List.set_cons_zero, List.set_cons_succ]
  refine wpAnyH_take (i := 6) (oi := { dst := some 7, op := Op.assign (Operand.tmp 30), type := 3, pos := _, after := #[{ on := 5, ground := Ground.data }, { on := 5, ground := Ground.chain }, { on := 0, ground := Ground.phase }, { on := 1, ground := Ground.phase }, { on := 2, ground := Ground.phase }, { on := 3, ground := Ground.phase }, { on := 4, ground := Ground.phase }, { on := 5, ground := Ground.phase }], guard := none }) (v := ?_) rfl (by kernel_rfl) (by kernel_rfl) (by kernel_rfl) (fun _ _ _ h => h) (Or.inl ⟨by rfl, ?_⟩) (by assumption) ?_
  rotate_left
  · intro wt hSw; (try dsimp only at hSw); have s0 := cellB hSw s0 z0; have s1 := cellB hSw s1 z0; have s2 := cellB hSw s2 z0; have s3 := cellB hSw s3 z0; have g4 := cellB hSw g4 z1; have f0 := cellB hSw f0 zb; have f1 := cellB hSw f1 zb; have f2 := cellB hSw f2 zb; have f3 := cellB hSw f3 zb; have f4 := cellB hSw f4 zb; first | (go_simp; done) | (go_simp; with_reducible rfl) | (trace_state; fail)
  try simp only [Act.put, List.setIfInBounds_toArray, List.set_cons_zero, List.set_cons_succ]
  refine wpAnyH_done (by kernel_rfl) ?_ _
  have HHw := Lib.hid (HB0.out.trans (hHeld.mono HB0.out.size))
  have p0 := cellB hHeld g0 z1
  have p1 := cellB hHeld g1 z1
  have p2 := cellB hHeld g2 z1
  have p3 := cellB hHeld g3 z1
  have p4 := cellB hHeld g4 z1
  clear s1 s2 s3 d0 d1 d2 d3 d4 f0 f1 f2 f3 f4
  by_cases hT : T = 0
  · subst hT
    have hres := Lib.hid (show Z = 0 by rw [← HZ.out]; simp)
    clear hHeld s0
    go_wp2_with fail
    go_ret
    exact ⟨by rw [hres.out]; rfl, HHw.out⟩
  have eT : (T == 0) = false := by simpa using hT
  by_cases hU : U = 0
  · subst hU
    have hres := Lib.hid (show Z = 0 by rw [← HZ.out]; simp)
    clear hT
    clear hHeld s0
    go_wp2_with fail
    go_ret
    exact ⟨by rw [hres.out]; rfl, HHw.out⟩
  have eU : (U == 0) = false := by simpa using hU
  have HD := Lib.hid (show Z = doubleT ⟨op, t, n, m, [x, y]⟩ T U by rw [← HZ.out]; simp [hT, hU])
  clear HZ hT hU
  by_cases h7 : op = 7
  · subst h7
    by_cases ht : t = 0
    case neg =>
      have et : (t == 0) = false := by simpa using ht
      have hres := Lib.hid (show Z = 0 by rw [HD.out]; unfold doubleT; simp [ht])
      clear ht
      clear hHeld s0
      go_wp2_with fail
      refine (hK0 _).mono ?_; rintro r w2 ⟨rfl, rfl⟩
      go_wp2_with fail
      go_ret
      exact ⟨by rw [hres.out]; rfl, HHw.out⟩
    subst ht
    by_cases hn : n = 0
    case neg =>
      have en : (n == 0) = false := by simpa using hn
      have hres := Lib.hid (show Z = 0 by rw [HD.out]; unfold doubleT; simp [hn])
      clear hn
      clear hHeld s0
      go_wp2_with fail
      refine (hK0 _).mono ?_; rintro r w2 ⟨rfl, rfl⟩
      go_wp2_with fail
      go_ret
      exact ⟨by rw [hres.out]; rfl, HHw.out⟩
    subst hn
    have hB := ref07_Binary m
    cases hb : aBinary m
    · rw [hb] at hB
      have hres := Lib.hid (show Z = 0 by rw [HD.out]; unfold doubleT; simp [hb])
      clear hb
      clear hHeld s0
      go_wp2_with fail
      refine (hB _).mono ?_; rintro r w2 ⟨rfl, rfl⟩
      go_wp2_with fail
      refine (hK0 _).mono ?_; rintro r w2 ⟨rfl, rfl⟩
      go_wp2_with fail
      go_ret
      exact ⟨by rw [hres.out]; rfl, HHw.out⟩
    rw [hb] at hB
    have hR := ref07_Result m T
    have hbd := aResult_le m T
    by_cases hm18 : m = 18
    · subst hm18
      by_cases hU2 : U = 2
      · subst hU2
        have HX := Lib.hid (show Z = aResult 18 T by rw [HD.out]; unfold doubleT; simp [hb])
        clear HD
        by_cases hTU : (2 : Int) = T
        · have eTU : ((2 : Int) == T) = true := by simpa using hTU
          clear hTU
          generalize aResult 18 T = R at *
          have hK := ref01_Right R
          cases hk : kRight R
          · rw [hk] at hK
            have hR0 : R = 0 := by have := of_decide_eq_false hk; omega
            have hres := Lib.hid (HX.out.trans hR0)
            clear hk hbd hR0 hb
            clear hHeld s0
            go_wp2_with fail
            refine (hB _).mono ?_; rintro r w2 ⟨rfl, rfl⟩
            go_wp2_with fail
            refine (hR _).mono ?_; rintro r w2 ⟨rfl, rfl⟩
            go_wp2_with fail
            refine (hK _).mono ?_; rintro r w2 ⟨rfl, rfl⟩
            go_wp2_with fail
            go_ret
            exact ⟨by rw [hres.out]; rfl, HHw.out⟩
          · rw [hk] at hK
            have hres := HX
            clear hk hbd hb
            clear hHeld s0
            go_wp2_with fail
            refine (hB _).mono ?_; rintro r w2 ⟨rfl, rfl⟩
            go_wp2_with fail
            refine (hR _).mono ?_; rintro r w2 ⟨rfl, rfl⟩
            go_wp2_with fail
            refine (hK _).mono ?_; rintro r w2 ⟨rfl, rfl⟩
            go_wp2_with fail
            go_ret
            exact ⟨by rw [hres.out]; rfl, HHw.out⟩
        have eTU : ((2 : Int) == T) = false := by simpa using hTU
        clear hTU
        generalize aResult 18 T = R at *
        have hK := ref01_Right R
        cases hk : kRight R
        · rw [hk] at hK
          have hR0 : R = 0 := by have := of_decide_eq_false hk; omega
          have hres := Lib.hid (HX.out.trans hR0)
          clear hk hbd hR0 hb
          clear hHeld s0
          go_wp2_with fail
          refine (hB _).mono ?_; rintro r w2 ⟨rfl, rfl⟩
          go_wp2_with fail
          refine (hR _).mono ?_; rintro r w2 ⟨rfl, rfl⟩
          go_wp2_with fail
          refine (hK _).mono ?_; rintro r w2 ⟨rfl, rfl⟩
          go_wp2_with fail
          go_ret
          exact ⟨by rw [hres.out]; rfl, HHw.out⟩
        · rw [hk] at hK
          have hres := HX
          clear hk hbd hb
          clear hHeld s0
          go_wp2_with fail
          refine (hB _).mono ?_; rintro r w2 ⟨rfl, rfl⟩
          go_wp2_with fail
          refine (hR _).mono ?_; rintro r w2 ⟨rfl, rfl⟩
          go_wp2_with fail
          refine (hK _).mono ?_; rintro r w2 ⟨rfl, rfl⟩
          go_wp2_with fail
          go_ret
          exact ⟨by rw [hres.out]; rfl, HHw.out⟩
      have eU2 : (U == 2) = false := by simpa using hU2
      have hres := Lib.hid (show Z = 0 by rw [HD.out]; unfold doubleT; simp [hU2])
      clear hU2 hR hb hbd HD
      by_cases hTU : U = T
      · have eTU : (U == T) = true := by simpa using hTU
        clear hTU
        clear hHeld s0
        go_wp2_with fail
        refine (hB _).mono ?_; rintro r w2 ⟨rfl, rfl⟩
        go_wp2_with fail
        refine (hK0 _).mono ?_; rintro r w2 ⟨rfl, rfl⟩
        go_wp2_with fail
        go_ret
        exact ⟨by rw [hres.out]; rfl, HHw.out⟩
      have eTU : (U == T) = false := by simpa using hTU
      clear hTU
      clear hHeld s0
      go_wp2_with fail
      refine (hB _).mono ?_; rintro r w2 ⟨rfl, rfl⟩
      go_wp2_with fail
      refine (hK0 _).mono ?_; rintro r w2 ⟨rfl, rfl⟩
      go_wp2_with fail
      go_ret
      exact ⟨by rw [hres.out]; rfl, HHw.out⟩
    have em18 : (m == 18) = false := by simpa using hm18
    have en18 : (m != 18) = true := by simpa using hm18
    by_cases hm19 : m = 19
    · subst hm19
      by_cases hU2 : U = 2
      · subst hU2
        have HX := Lib.hid (show Z = aResult 19 T by rw [HD.out]; unfold doubleT; simp [hb])
        clear HD
        by_cases hTU : (2 : Int) = T
        · have eTU : ((2 : Int) == T) = true := by simpa using hTU
          clear hTU
          generalize aResult 19 T = R at *
          have hK := ref01_Right R
          cases hk : kRight R
          · rw [hk] at hK
            have hR0 : R = 0 := by have := of_decide_eq_false hk; omega
            have hres := Lib.hid (HX.out.trans hR0)
            clear hk hbd hR0 hb
            clear hHeld s0
            go_wp2_with fail
            refine (hB _).mono ?_; rintro r w2 ⟨rfl, rfl⟩
            go_wp2_with fail
            refine (hR _).mono ?_; rintro r w2 ⟨rfl, rfl⟩
            go_wp2_with fail
            refine (hK _).mono ?_; rintro r w2 ⟨rfl, rfl⟩
            go_wp2_with fail
            go_ret
            exact ⟨by rw [hres.out]; rfl, HHw.out⟩
          · rw [hk] at hK
            have hres := HX
            clear hk hbd hb
            clear hHeld s0
            go_wp2_with fail
            refine (hB _).mono ?_; rintro r w2 ⟨rfl, rfl⟩
            go_wp2_with fail
            refine (hR _).mono ?_; rintro r w2 ⟨rfl, rfl⟩
            go_wp2_with fail
            refine (hK _).mono ?_; rintro r w2 ⟨rfl, rfl⟩
            go_wp2_with fail
            go_ret
            exact ⟨by rw [hres.out]; rfl, HHw.out⟩
        have eTU : ((2 : Int) == T) = false := by simpa using hTU
        clear hTU
        generalize aResult 19 T = R at *
        have hK := ref01_Right R
        cases hk : kRight R
        · rw [hk] at hK
          have hR0 : R = 0 := by have := of_decide_eq_false hk; omega
          have hres := Lib.hid (HX.out.trans hR0)
          clear hk hbd hR0 hb
          clear hHeld s0
          go_wp2_with fail
          refine (hB _).mono ?_; rintro r w2 ⟨rfl, rfl⟩
          go_wp2_with fail
          refine (hR _).mono ?_; rintro r w2 ⟨rfl, rfl⟩
          go_wp2_with fail
          refine (hK _).mono ?_; rintro r w2 ⟨rfl, rfl⟩
          go_wp2_with fail
          go_ret
          exact ⟨by rw [hres.out]; rfl, HHw.out⟩
        · rw [hk] at hK
          have hres := HX
          clear hk hbd hb
          clear hHeld s0
          go_wp2_with fail
          refine (hB _).mono ?_; rintro r w2 ⟨rfl, rfl⟩
          go_wp2_with fail
          refine (hR _).mono ?_; rintro r w2 ⟨rfl, rfl⟩
          go_wp2_with fail
          refine (hK _).mono ?_; rintro r w2 ⟨rfl, rfl⟩
          go_wp2_with fail
          go_ret
          exact ⟨by rw [hres.out]; rfl, HHw.out⟩
      have eU2 : (U == 2) = false := by simpa using hU2
      have hres := Lib.hid (show Z = 0 by rw [HD.out]; unfold doubleT; simp [hU2])
      clear hU2 hR hb hbd HD
      by_cases hTU : U = T
      · have eTU : (U == T) = true := by simpa using hTU
        clear hTU
        clear hHeld s0
        go_wp2_with fail
        refine (hB _).mono ?_; rintro r w2 ⟨rfl, rfl⟩
        go_wp2_with fail
        refine (hK0 _).mono ?_; rintro r w2 ⟨rfl, rfl⟩
        go_wp2_with fail
        go_ret
        exact ⟨by rw [hres.out]; rfl, HHw.out⟩
      have eTU : (U == T) = false := by simpa using hTU
      clear hTU
      clear hHeld s0
      go_wp2_with fail
      refine (hB _).mono ?_; rintro r w2 ⟨rfl, rfl⟩
      go_wp2_with fail
      refine (hK0 _).mono ?_; rintro r w2 ⟨rfl, rfl⟩
      go_wp2_with fail
      go_ret
      exact ⟨by rw [hres.out]; rfl, HHw.out⟩
    have em19 : (m == 19) = false := by simpa using hm19
    have en19 : (m != 19) = true := by simpa using hm19
    by_cases hTU : U = T
    · subst hTU
      have HX := Lib.hid (show Z = aResult m U by rw [HD.out]; unfold doubleT; simp [hb, hm18, hm19])
      clear HD hm18 hm19
      generalize aResult m U = R at *
      have hK := ref01_Right R
      cases hk : kRight R
      · rw [hk] at hK
        have hR0 : R = 0 := by have := of_decide_eq_false hk; omega
        have hres := Lib.hid (HX.out.trans hR0)
        clear hk hbd hR0 hb
        clear hHeld s0
        go_wp2_with fail
        refine (hB _).mono ?_; rintro r w2 ⟨rfl, rfl⟩
        go_wp2_with fail
        refine (hR _).mono ?_; rintro r w2 ⟨rfl, rfl⟩
        go_wp2_with fail
        refine (hK _).mono ?_; rintro r w2 ⟨rfl, rfl⟩
        go_wp2_with fail
        go_ret
        exact ⟨by rw [hres.out]; rfl, HHw.out⟩
      · rw [hk] at hK
        have hres := HX
        clear hk hbd hb
        clear hHeld s0
        go_wp2_with fail
        refine (hB _).mono ?_; rintro r w2 ⟨rfl, rfl⟩
        go_wp2_with fail
        refine (hR _).mono ?_; rintro r w2 ⟨rfl, rfl⟩
        go_wp2_with fail
        refine (hK _).mono ?_; rintro r w2 ⟨rfl, rfl⟩
        go_wp2_with fail
        go_ret
        exact ⟨by rw [hres.out]; rfl, HHw.out⟩
    have eTU : (U == T) = false := by simpa using hTU
    have hres := Lib.hid (show Z = 0 by rw [HD.out]; unfold doubleT; simp [hm18, hm19, hTU])
    clear hTU hR hb hbd HD hm18 hm19
    by_cases hU2 : U = 2
    · subst hU2
      clear hHeld s0
      go_wp2_with fail
      refine (hB _).mono ?_; rintro r w2 ⟨rfl, rfl⟩
      go_wp2_with fail
      refine (hK0 _).mono ?_; rintro r w2 ⟨rfl, rfl⟩
      go_wp2_with fail
      go_ret
      exact ⟨by rw [hres.out]; rfl, HHw.out⟩
    have eU2 : (U == 2) = false := by simpa using hU2
    clear hU2
    clear hHeld s0
    go_wp2_with fail
    refine (hB _).mono ?_; rintro r w2 ⟨rfl, rfl⟩
    go_wp2_with fail
    refine (hK0 _).mono ?_; rintro r w2 ⟨rfl, rfl⟩
    go_wp2_with fail
    go_ret
    exact ⟨by rw [hres.out]; rfl, HHw.out⟩
  have e7 : (op == 7) = false := by simpa using h7
  have hres := Lib.hid (show Z = 0 by rw [HD.out]; unfold doubleT; simp [h7])
  clear HD
  have hw2 : IntKind.i64.wrap 2 = 2 := by decide
  have hw1 : IntKind.i64.wrap 1 = 1 := by decide
  have hw0 : IntKind.i64.wrap 0 = 0 := by decide
  have hwt : IntKind.i64.wrap (Int.tdiv 2 2) = 1 := by decide
  have hwz : IntKind.i64.wrap (Int.tdiv 0 2) = 0 := by decide
  by_cases h2 : op = 2
  · subst h2
    clear h7
    go_upto_region 17 with fail
    refine wp_region_held_drew (S := (fun w' => Below W0.heap.size W0 w')) (by kernel_rfl) ?_ (fun hHeld => ?_)
    · (try dsimp only); first | exact Below.drew hHeld | assumption | (trace_state; fail)
    refine wpAnyH_take (i := 0) (oi := { dst := some 77, op := Op.move (Operand.tmp 5), type := 3, pos := _, after := #[], guard := none }) (v := ?_) rfl (by kernel_rfl) (by kernel_rfl) (by kernel_rfl) (fun _ _ _ h => h) (Or.inl ⟨by rfl, ?_⟩) (by assumption) ?_
    rotate_left
    · intro wt hSw; (try dsimp only at hSw); have s0 := cellB hSw s0 z0; have g0 := cellB hSw g0 z1; have g1 := cellB hSw g1 z1; have g2 := cellB hSw g2 z1; have g3 := cellB hSw g3 z1; first | (go_simp; done) | (go_simp; with_reducible rfl) | (trace_state; fail)
    try simp only [Act.put, List.setIfInBounds_toArray, List.set_cons_zero, List.set_cons_succ]
    refine wpAnyH_take (i := 1) (oi := { dst := some 78, op := Op.fieldAddr 30 (Operand.tmp 3) 0, type := 0, pos := _, after := #[], guard := none }) (v := ?_) rfl (by kernel_rfl) (by kernel_rfl) (by kernel_rfl) (fun _ _ _ h => h) (Or.inl ⟨by rfl, ?_⟩) (by assumption) ?_
    rotate_left
    · intro wt hSw; (try dsimp only at hSw); have s0 := cellB hSw s0 z0; have g0 := cellB hSw g0 z1; have g1 := cellB hSw g1 z1; have g2 := cellB hSw g2 z1; have g3 := cellB hSw g3 z1; first | (go_simp; done) | (go_simp; with_reducible rfl) | (trace_state; fail)
    try simp only [Act.put, List.setIfInBounds_toArray, List.set_cons_zero, List.set_cons_succ]
    refine wpAnyH_take (i := 2) (oi := { dst := some 79, op := Op.load 3 (Operand.tmp 78), type := 3, pos := _, after := #[{ on := 1, ground := Ground.data }], guard := none }) (v := ?_) rfl (by kernel_rfl) (by kernel_rfl) (by kernel_rfl) (fun _ _ _ h => h) (Or.inl ⟨by rfl, ?_⟩) (by assumption) ?_
    rotate_left
    · intro wt hSw; (try dsimp only at hSw); have s0 := cellB hSw s0 z0; have g0 := cellB hSw g0 z1; have g1 := cellB hSw g1 z1; have g2 := cellB hSw g2 z1; have g3 := cellB hSw g3 z1; first | (go_simp; done) | (go_simp; with_reducible rfl) | (trace_state; fail)
    try simp only [Act.put, List.setIfInBounds_toArray, List.set_cons_zero, List.set_cons_succ]
    refine wpAnyH_take (i := 3) (oi := { dst := some 80, op := Op.binOp BinOp.sub 3 (Operand.tmp 79) (Operand.const (Value.int IntKind.i64 2)) 3, type := 3, pos := _, after := #[{ on := 2, ground := Ground.data }], guard := none }) (v := ?_) rfl (by kernel_rfl) (by kernel_rfl) (by kernel_rfl) (fun _ _ _ h => h) (Or.inl ⟨by rfl, ?_⟩) (by assumption) ?_
    rotate_left
    · intro wt hSw; (try dsimp only at hSw); have s0 := cellB hSw s0 z0; have g0 := cellB hSw g0 z1; have g1 := cellB hSw g1 z1; have g2 := cellB hSw g2 z1; have g3 := cellB hSw g3 z1; first | (go_simp; done) | (go_simp; with_reducible rfl) | (trace_state; fail)
    try simp only [Act.put, List.setIfInBounds_toArray, List.set_cons_zero, List.set_cons_succ]
    refine wpAnyH_take (i := 4) (oi := { dst := some 81, op := Op.binOp BinOp.quo 3 (Operand.tmp 80) (Operand.const (Value.int IntKind.i64 2)) 3, type := 3, pos := _, after := #[{ on := 3, ground := Ground.data }], guard := none }) (v := ?_) rfl (by kernel_rfl) (by kernel_rfl) (by kernel_rfl) (fun _ _ _ h => h) (Or.inl ⟨by rfl, ?_⟩) (by assumption) ?_
    rotate_left
    · intro wt hSw; (try dsimp only at hSw); have s0 := cellB hSw s0 z0; have g0 := cellB hSw g0 z1; have g1 := cellB hSw g1 z1; have g2 := cellB hSw g2 z1; have g3 := cellB hSw g3 z1; first | (go_simp; done) | (go_simp; with_reducible rfl) | (trace_state; fail)
    try simp only [Act.put, List.setIfInBounds_toArray, List.set_cons_zero, List.set_cons_succ]
    refine wpAnyH_take (i := 5) (oi := { dst := some 82, op := Op.binOp BinOp.eql 3 (Operand.tmp 77) (Operand.tmp 81) 3, type := 4, pos := _, after := #[{ on := 0, ground := Ground.data }, { on := 4, ground := Ground.data }], guard := none }) (v := ?_) rfl (by kernel_rfl) (by kernel_rfl) (by kernel_rfl) (fun _ _ _ h => h) (Or.inl ⟨by rfl, ?_⟩) (by assumption) ?_
    rotate_left
    · intro wt hSw; (try dsimp only at hSw); have s0 := cellB hSw s0 z0; have g0 := cellB hSw g0 z1; have g1 := cellB hSw g1 z1; have g2 := cellB hSw g2 z1; have g3 := cellB hSw g3 z1; first | (go_simp; done) | (go_simp; with_reducible rfl) | (trace_state; fail)
    try simp only [Act.put, List.setIfInBounds_toArray, List.set_cons_zero, List.set_cons_succ]
    refine wpAnyH_take (i := 6) (oi := { dst := some 83, op := Op.move (Operand.tmp 82), type := 4, pos := _, after := #[{ on := 5, ground := Ground.data }], guard := none }) (v := ?_) rfl (by kernel_rfl) (by kernel_rfl) (by kernel_rfl) (fun _ _ _ h => h) (Or.inl ⟨by rfl, ?_⟩) (by assumption) ?_
    rotate_left
    · intro wt hSw; (try dsimp only at hSw); have s0 := cellB hSw s0 z0; have g0 := cellB hSw g0 z1; have g1 := cellB hSw g1 z1; have g2 := cellB hSw g2 z1; have g3 := cellB hSw g3 z1; first | (go_simp; done) | (go_simp; with_reducible rfl) | (trace_state; fail)
    try simp only [Act.put, List.setIfInBounds_toArray, List.set_cons_zero, List.set_cons_succ]
    refine wpAnyH_take (i := 7) (oi := { dst := some 84, op := Op.fieldAddr 30 (Operand.tmp 3) 1, type := 0, pos := _, after := #[{ on := 6, ground := Ground.guard }], guard := some (6, true) }) (v := undef) rfl (by kernel_rfl) (by kernel_rfl) (by kernel_rfl) (fun _ _ _ h => h) (Or.inr ⟨by rfl, rfl⟩) (by assumption) ?_
    try simp only [Act.put, List.setIfInBounds_toArray, List.set_cons_zero, List.set_cons_succ]
    refine wpAnyH_take (i := 8) (oi := { dst := some 85, op := Op.load 3 (Operand.tmp 84), type := 3, pos := _, after := #[{ on := 7, ground := Ground.data }, { on := 6, ground := Ground.guard }], guard := some (6, true) }) (v := undef) rfl (by kernel_rfl) (by kernel_rfl) (by kernel_rfl) (fun _ _ _ h => h) (Or.inr ⟨by rfl, rfl⟩) (by assumption) ?_
    try simp only [Act.put, List.setIfInBounds_toArray, List.set_cons_zero, List.set_cons_succ]
    refine wpAnyH_take (i := 9) (oi := { dst := some 86, op := Op.binOp BinOp.eql 3 (Operand.tmp 85) (Operand.const (Value.int IntKind.i64 0)) 3, type := 4, pos := _, after := #[{ on := 8, ground := Ground.data }, { on := 6, ground := Ground.guard }], guard := some (6, true) }) (v := undef) rfl (by kernel_rfl) (by kernel_rfl) (by kernel_rfl) (fun _ _ _ h => h) (Or.inr ⟨by rfl, rfl⟩) (by assumption) ?_
    try simp only [Act.put, List.setIfInBounds_toArray, List.set_cons_zero, List.set_cons_succ]
    refine wpAnyH_take (i := 10) (oi := { dst := some 87, op := Op.pick (Operand.tmp 83) (Operand.tmp 86) (Operand.const (Value.bool false)), type := 4, pos := _, after := #[{ on := 6, ground := Ground.data }, { on := 9, ground := Ground.data }], guard := none }) (v := ?_) rfl (by kernel_rfl) (by kernel_rfl) (by kernel_rfl) (fun _ _ _ h => h) (Or.inl ⟨by rfl, ?_⟩) (by assumption) ?_
    rotate_left
    · intro wt hSw; (try dsimp only at hSw); have s0 := cellB hSw s0 z0; have g0 := cellB hSw g0 z1; have g1 := cellB hSw g1 z1; have g2 := cellB hSw g2 z1; have g3 := cellB hSw g3 z1; first | (go_simp; done) | (go_simp; with_reducible rfl) | (trace_state; fail)
    try simp only [Act.put, List.setIfInBounds_toArray, List.set_cons_zero, List.set_cons_succ]
    refine wpAnyH_take (i := 11) (oi := { dst := some 88, op := Op.move (Operand.tmp 87), type := 4, pos := _, after := #[{ on := 10, ground := Ground.data }, { on := 6, ground := Ground.chain }], guard := none }) (v := ?_) rfl (by kernel_rfl) (by kernel_rfl) (by kernel_rfl) (fun _ _ _ h => h) (Or.inl ⟨by rfl, ?_⟩) (by assumption) ?_
    rotate_left
    · intro wt hSw; (try dsimp only at hSw); have s0 := cellB hSw s0 z0; have g0 := cellB hSw g0 z1; have g1 := cellB hSw g1 z1; have g2 := cellB hSw g2 z1; have g3 := cellB hSw g3 z1; first | (go_simp; done) | (go_simp; with_reducible rfl) | (trace_state; fail)
    try simp only [Act.put, List.setIfInBounds_toArray, List.set_cons_zero, List.set_cons_succ]
    refine wpAnyH_take (i := 12) (oi := { dst := some 89, op := Op.fieldAddr 30 (Operand.tmp 3) 3, type := 0, pos := _, after := #[{ on := 11, ground := Ground.guard }], guard := some (11, true) }) (v := undef) rfl (by kernel_rfl) (by kernel_rfl) (by kernel_rfl) (fun _ _ _ h => h) (Or.inr ⟨by rfl, rfl⟩) (by assumption) ?_
    try simp only [Act.put, List.setIfInBounds_toArray, List.set_cons_zero, List.set_cons_succ]
    refine wpAnyH_take (i := 13) (oi := { dst := some 90, op := Op.load 3 (Operand.tmp 89), type := 3, pos := _, after := #[{ on := 12, ground := Ground.data }, { on := 11, ground := Ground.guard }], guard := some (11, true) }) (v := undef) rfl (by kernel_rfl) (by kernel_rfl) (by kernel_rfl) (fun _ _ _ h => h) (Or.inr ⟨by rfl, rfl⟩) (by assumption) ?_
    try simp only [Act.put, List.setIfInBounds_toArray, List.set_cons_zero, List.set_cons_succ]
    refine wpAnyH_take (i := 14) (oi := { dst := some 91, op := Op.binOp BinOp.eql 3 (Operand.tmp 90) (Operand.const (Value.int IntKind.i64 0)) 3, type := 4, pos := _, after := #[{ on := 13, ground := Ground.data }, { on := 11, ground := Ground.guard }], guard := some (11, true) }) (v := undef) rfl (by kernel_rfl) (by kernel_rfl) (by kernel_rfl) (fun _ _ _ h => h) (Or.inr ⟨by rfl, rfl⟩) (by assumption) ?_
    try simp only [Act.put, List.setIfInBounds_toArray, List.set_cons_zero, List.set_cons_succ]
    refine wpAnyH_take (i := 15) (oi := { dst := some 92, op := Op.pick (Operand.tmp 88) (Operand.tmp 91) (Operand.const (Value.bool false)), type := 4, pos := _, after := #[{ on := 11, ground := Ground.data }, { on := 14, ground := Ground.data }], guard := none }) (v := ?_) rfl (by kernel_rfl) (by kernel_rfl) (by kernel_rfl) (fun _ _ _ h => h) (Or.inl ⟨by rfl, ?_⟩) (by assumption) ?_
    rotate_left
    · intro wt hSw; (try dsimp only at hSw); have s0 := cellB hSw s0 z0; have g0 := cellB hSw g0 z1; have g1 := cellB hSw g1 z1; have g2 := cellB hSw g2 z1; have g3 := cellB hSw g3 z1; first | (go_simp; done) | (go_simp; with_reducible rfl) | (trace_state; fail)
    try simp only [Act.put, List.setIfInBounds_toArray, List.set_cons_zero, List.set_cons_succ]
    refine wpAnyH_take (i := 16) (oi := { dst := some 93, op := Op.move (Operand.tmp 92), type := 4, pos := _, after := #[{ on := 15, ground := Ground.data }, { on := 11, ground := Ground.chain }], guard := none }) (v := ?_) rfl (by kernel_rfl) (by kernel_rfl) (by kernel_rfl) (fun _ _ _ h => h) (Or.inl ⟨by rfl, ?_⟩) (by assumption) ?_
    rotate_left
    · intro wt hSw; (try dsimp only at hSw); have s0 := cellB hSw s0 z0; have g0 := cellB hSw g0 z1; have g1 := cellB hSw g1 z1; have g2 := cellB hSw g2 z1; have g3 := cellB hSw g3 z1; first | (go_simp; done) | (go_simp; with_reducible rfl) | (trace_state; fail)
    try simp only [Act.put, List.setIfInBounds_toArray, List.set_cons_zero, List.set_cons_succ]
    refine wpAnyH_take (i := 17) (oi := { dst := some 94, op := Op.fieldAddr 30 (Operand.tmp 3) 2, type := 0, pos := _, after := #[{ on := 16, ground := Ground.guard }], guard := some (16, true) }) (v := undef) rfl (by kernel_rfl) (by kernel_rfl) (by kernel_rfl) (fun _ _ _ h => h) (Or.inr ⟨by rfl, rfl⟩) (by assumption) ?_
    try simp only [Act.put, List.setIfInBounds_toArray, List.set_cons_zero, List.set_cons_succ]
    refine wpAnyH_take (i := 18) (oi := { dst := some 95, op := Op.load 3 (Operand.tmp 94), type := 3, pos := _, after := #[{ on := 17, ground := Ground.data }, { on := 16, ground := Ground.guard }], guard := some (16, true) }) (v := undef) rfl (by kernel_rfl) (by kernel_rfl) (by kernel_rfl) (fun _ _ _ h => h) (Or.inr ⟨by rfl, rfl⟩) (by assumption) ?_
    try simp only [Act.put, List.setIfInBounds_toArray, List.set_cons_zero, List.set_cons_succ]
    refine wpAnyH_take (i := 19) (oi := { dst := some 96, op := Op.binOp BinOp.geq 3 (Operand.tmp 95) (Operand.const (Value.int IntKind.i64 0)) 3, type := 4, pos := _, after := #[{ on := 18, ground := Ground.data }, { on := 16, ground := Ground.guard }], guard := some (16, true) }) (v := undef) rfl (by kernel_rfl) (by kernel_rfl) (by kernel_rfl) (fun _ _ _ h => h) (Or.inr ⟨by rfl, rfl⟩) (by assumption) ?_
    try simp only [Act.put, List.setIfInBounds_toArray, List.set_cons_zero, List.set_cons_succ]
    refine wpAnyH_take (i := 20) (oi := { dst := some 97, op := Op.pick (Operand.tmp 93) (Operand.tmp 96) (Operand.const (Value.bool false)), type := 4, pos := _, after := #[{ on := 16, ground := Ground.data }, { on := 19, ground := Ground.data }], guard := none }) (v := ?_) rfl (by kernel_rfl) (by kernel_rfl) (by kernel_rfl) (fun _ _ _ h => h) (Or.inl ⟨by rfl, ?_⟩) (by assumption) ?_
    rotate_left
    · intro wt hSw; (try dsimp only at hSw); have s0 := cellB hSw s0 z0; have g0 := cellB hSw g0 z1; have g1 := cellB hSw g1 z1; have g2 := cellB hSw g2 z1; have g3 := cellB hSw g3 z1; first | (go_simp; done) | (go_simp; with_reducible rfl) | (trace_state; fail)
    try simp only [Act.put, List.setIfInBounds_toArray, List.set_cons_zero, List.set_cons_succ]
    refine wpAnyH_take (i := 21) (oi := { dst := some 98, op := Op.move (Operand.tmp 97), type := 4, pos := _, after := #[{ on := 20, ground := Ground.data }, { on := 16, ground := Ground.chain }], guard := none }) (v := ?_) rfl (by kernel_rfl) (by kernel_rfl) (by kernel_rfl) (fun _ _ _ h => h) (Or.inl ⟨by rfl, ?_⟩) (by assumption) ?_
    rotate_left
    · intro wt hSw; (try dsimp only at hSw); have s0 := cellB hSw s0 z0; have g0 := cellB hSw g0 z1; have g1 := cellB hSw g1 z1; have g2 := cellB hSw g2 z1; have g3 := cellB hSw g3 z1; first | (go_simp; done) | (go_simp; with_reducible rfl) | (trace_state; fail)
    try simp only [Act.put, List.setIfInBounds_toArray, List.set_cons_zero, List.set_cons_succ]
    refine wpAnyH_take (i := 22) (oi := { dst := some 99, op := Op.fieldAddr 30 (Operand.tmp 3) 2, type := 0, pos := _, after := #[{ on := 21, ground := Ground.guard }], guard := some (21, true) }) (v := undef) rfl (by kernel_rfl) (by kernel_rfl) (by kernel_rfl) (fun _ _ _ h => h) (Or.inr ⟨by rfl, rfl⟩) (by assumption) ?_
    try simp only [Act.put, List.setIfInBounds_toArray, List.set_cons_zero, List.set_cons_succ]
    refine wpAnyH_take (i := 23) (oi := { dst := some 100, op := Op.load 3 (Operand.tmp 99), type := 3, pos := _, after := #[{ on := 22, ground := Ground.data }, { on := 21, ground := Ground.guard }], guard := some (21, true) }) (v := undef) rfl (by kernel_rfl) (by kernel_rfl) (by kernel_rfl) (fun _ _ _ h => h) (Or.inr ⟨by rfl, rfl⟩) (by assumption) ?_
    try simp only [Act.put, List.setIfInBounds_toArray, List.set_cons_zero, List.set_cons_succ]
    refine wpAnyH_take (i := 24) (oi := { dst := some 101, op := Op.fieldAddr 37 (Operand.tmp 2) 0, type := 0, pos := _, after := #[{ on := 21, ground := Ground.guard }], guard := some (21, true) }) (v := undef) rfl (by kernel_rfl) (by kernel_rfl) (by kernel_rfl) (fun _ _ _ h => h) (Or.inr ⟨by rfl, rfl⟩) (by assumption) ?_
    try simp only [Act.put, List.setIfInBounds_toArray, List.set_cons_zero, List.set_cons_succ]
    refine wpAnyH_take (i := 25) (oi := { dst := some 102, op := Op.load 23 (Operand.tmp 101), type := 23, pos := _, after := #[{ on := 24, ground := Ground.data }, { on := 21, ground := Ground.guard }], guard := some (21, true) }) (v := undef) rfl (by kernel_rfl) (by kernel_rfl) (by kernel_rfl) (fun _ _ _ h => h) (Or.inr ⟨by rfl, rfl⟩) (by assumption) ?_
    try simp only [Act.put, List.setIfInBounds_toArray, List.set_cons_zero, List.set_cons_succ]
    refine wpAnyH_take (i := 26) (oi := { dst := some 103, op := Op.call { callee := Callee.builtin Builtin.len, args := #[Operand.tmp 102], argTypes := #[23] }, type := 3, pos := _, after := #[{ on := 25, ground := Ground.data }, { on := 21, ground := Ground.guard }], guard := some (21, true) }) (v := undef) rfl (by kernel_rfl) (by kernel_rfl) (by kernel_rfl) (fun _ _ _ h => h) (Or.inr ⟨by rfl, rfl⟩) (by assumption) ?_
    try simp only [Act.put, List.setIfInBounds_toArray, List.set_cons_zero, List.set_cons_succ]
    refine wpAnyH_take (i := 27) (oi := { dst := some 104, op := Op.binOp BinOp.lss 3 (Operand.tmp 100) (Operand.tmp 103) 3, type := 4, pos := _, after := #[{ on := 23, ground := Ground.data }, { on := 26, ground := Ground.data }, { on := 21, ground := Ground.guard }], guard := some (21, true) }) (v := undef) rfl (by kernel_rfl) (by kernel_rfl) (by kernel_rfl) (fun _ _ _ h => h) (Or.inr ⟨by rfl, rfl⟩) (by assumption) ?_
    try simp only [Act.put, List.setIfInBounds_toArray, List.set_cons_zero, List.set_cons_succ]
    refine wpAnyH_take (i := 28) (oi := { dst := some 105, op := Op.pick (Operand.tmp 98) (Operand.tmp 104) (Operand.const (Value.bool false)), type := 4, pos := _, after := #[{ on := 21, ground := Ground.data }, { on := 27, ground := Ground.data }], guard := none }) (v := ?_) rfl (by kernel_rfl) (by kernel_rfl) (by kernel_rfl) (fun _ _ _ h => h) (Or.inl ⟨by rfl, ?_⟩) (by assumption) ?_
    rotate_left
    · intro wt hSw; (try dsimp only at hSw); have s0 := cellB hSw s0 z0; have g0 := cellB hSw g0 z1; have g1 := cellB hSw g1 z1; have g2 := cellB hSw g2 z1; have g3 := cellB hSw g3 z1; first | (go_simp; done) | (go_simp; with_reducible rfl) | (trace_state; fail)
    try simp only [Act.put, List.setIfInBounds_toArray, List.set_cons_zero, List.set_cons_succ]
    refine wpAnyH_take (i := 29) (oi := { dst := some 106, op := Op.move (Operand.tmp 105), type := 4, pos := _, after := #[{ on := 28, ground := Ground.data }, { on := 21, ground := Ground.chain }], guard := none }) (v := ?_) rfl (by kernel_rfl) (by kernel_rfl) (by kernel_rfl) (fun _ _ _ h => h) (Or.inl ⟨by rfl, ?_⟩) (by assumption) ?_
    rotate_left
    · intro wt hSw; (try dsimp only at hSw); have s0 := cellB hSw s0 z0; have g0 := cellB hSw g0 z1; have g1 := cellB hSw g1 z1; have g2 := cellB hSw g2 z1; have g3 := cellB hSw g3 z1; first | (go_simp; done) | (go_simp; with_reducible rfl) | (trace_state; fail)
    try simp only [Act.put, List.setIfInBounds_toArray, List.set_cons_zero, List.set_cons_succ]
    refine wpAnyH_take (i := 30) (oi := { dst := some 107, op := Op.fieldAddr 37 (Operand.tmp 2) 0, type := 0, pos := _, after := #[{ on := 29, ground := Ground.guard }], guard := some (29, true) }) (v := undef) rfl (by kernel_rfl) (by kernel_rfl) (by kernel_rfl) (fun _ _ _ h => h) (Or.inr ⟨by rfl, rfl⟩) (by assumption) ?_
    try simp only [Act.put, List.setIfInBounds_toArray, List.set_cons_zero, List.set_cons_succ]
    refine wpAnyH_take (i := 31) (oi := { dst := some 108, op := Op.load 23 (Operand.tmp 107), type := 23, pos := _, after := #[{ on := 30, ground := Ground.data }, { on := 29, ground := Ground.guard }], guard := some (29, true) }) (v := undef) rfl (by kernel_rfl) (by kernel_rfl) (by kernel_rfl) (fun _ _ _ h => h) (Or.inr ⟨by rfl, rfl⟩) (by assumption) ?_
    try simp only [Act.put, List.setIfInBounds_toArray, List.set_cons_zero, List.set_cons_succ]
    refine wpAnyH_take (i := 32) (oi := { dst := some 109, op := Op.fieldAddr 30 (Operand.tmp 3) 2, type := 0, pos := _, after := #[{ on := 29, ground := Ground.guard }], guard := some (29, true) }) (v := undef) rfl (by kernel_rfl) (by kernel_rfl) (by kernel_rfl) (fun _ _ _ h => h) (Or.inr ⟨by rfl, rfl⟩) (by assumption) ?_
    try simp only [Act.put, List.setIfInBounds_toArray, List.set_cons_zero, List.set_cons_succ]
    refine wpAnyH_take (i := 33) (oi := { dst := some 110, op := Op.load 3 (Operand.tmp 109), type := 3, pos := _, after := #[{ on := 32, ground := Ground.data }, { on := 29, ground := Ground.guard }], guard := some (29, true) }) (v := undef) rfl (by kernel_rfl) (by kernel_rfl) (by kernel_rfl) (fun _ _ _ h => h) (Or.inr ⟨by rfl, rfl⟩) (by assumption) ?_
    try simp only [Act.put, List.setIfInBounds_toArray, List.set_cons_zero, List.set_cons_succ]
    refine wpAnyH_take (i := 34) (oi := { dst := some 111, op := Op.indexAddr 23 (Operand.tmp 108) (Operand.tmp 110), type := 0, pos := _, after := #[{ on := 31, ground := Ground.data }, { on := 33, ground := Ground.data }, { on := 29, ground := Ground.guard }], guard := some (29, true) }) (v := undef) rfl (by kernel_rfl) (by kernel_rfl) (by kernel_rfl) (fun _ _ _ h => h) (Or.inr ⟨by rfl, rfl⟩) (by assumption) ?_
    try simp only [Act.put, List.setIfInBounds_toArray, List.set_cons_zero, List.set_cons_succ]
    refine wpAnyH_take (i := 35) (oi := { dst := some 112, op := Op.fieldAddr 45 (Operand.tmp 111) 2, type := 0, pos := _, after := #[{ on := 34, ground := Ground.data }, { on := 29, ground := Ground.guard }], guard := some (29, true) }) (v := undef) rfl (by kernel_rfl) (by kernel_rfl) (by kernel_rfl) (fun _ _ _ h => h) (Or.inr ⟨by rfl, rfl⟩) (by assumption) ?_
    try simp only [Act.put, List.setIfInBounds_toArray, List.set_cons_zero, List.set_cons_succ]
    refine wpAnyH_take (i := 36) (oi := { dst := some 113, op := Op.load 3 (Operand.tmp 112), type := 3, pos := _, after := #[{ on := 35, ground := Ground.data }, { on := 29, ground := Ground.guard }], guard := some (29, true) }) (v := undef) rfl (by kernel_rfl) (by kernel_rfl) (by kernel_rfl) (fun _ _ _ h => h) (Or.inr ⟨by rfl, rfl⟩) (by assumption) ?_
    try simp only [Act.put, List.setIfInBounds_toArray, List.set_cons_zero, List.set_cons_succ]
    refine wpAnyH_take (i := 37) (oi := { dst := some 114, op := Op.binOp BinOp.gtr 3 (Operand.tmp 113) (Operand.const (Value.int IntKind.i64 1)) 3, type := 4, pos := _, after := #[{ on := 36, ground := Ground.data }, { on := 29, ground := Ground.guard }], guard := some (29, true) }) (v := undef) rfl (by kernel_rfl) (by kernel_rfl) (by kernel_rfl) (fun _ _ _ h => h) (Or.inr ⟨by rfl, rfl⟩) (by assumption) ?_
    try simp only [Act.put, List.setIfInBounds_toArray, List.set_cons_zero, List.set_cons_succ]
    refine wpAnyH_take (i := 38) (oi := { dst := some 115, op := Op.fieldAddr 30 (Operand.tmp 3) 0, type := 0, pos := _, after := #[{ on := 29, ground := Ground.guard }], guard := some (29, true) }) (v := undef) rfl (by kernel_rfl) (by kernel_rfl) (by kernel_rfl) (fun _ _ _ h => h) (Or.inr ⟨by rfl, rfl⟩) (by assumption) ?_
    try simp only [Act.put, List.setIfInBounds_toArray, List.set_cons_zero, List.set_cons_succ]
    refine wpAnyH_take (i := 39) (oi := { dst := some 116, op := Op.load 3 (Operand.tmp 115), type := 3, pos := _, after := #[{ on := 38, ground := Ground.data }, { on := 29, ground := Ground.guard }], guard := some (29, true) }) (v := undef) rfl (by kernel_rfl) (by kernel_rfl) (by kernel_rfl) (fun _ _ _ h => h) (Or.inr ⟨by rfl, rfl⟩) (by assumption) ?_
    try simp only [Act.put, List.setIfInBounds_toArray, List.set_cons_zero, List.set_cons_succ]
    refine wpAnyH_take (i := 40) (oi := { dst := some 117, op := Op.binOp BinOp.eql 3 (Operand.tmp 116) (Operand.const (Value.int IntKind.i64 4)) 3, type := 4, pos := _, after := #[{ on := 39, ground := Ground.data }, { on := 29, ground := Ground.guard }], guard := some (29, true) }) (v := undef) rfl (by kernel_rfl) (by kernel_rfl) (by kernel_rfl) (fun _ _ _ h => h) (Or.inr ⟨by rfl, rfl⟩) (by assumption) ?_
    try simp only [Act.put, List.setIfInBounds_toArray, List.set_cons_zero, List.set_cons_succ]
    refine wpAnyH_take (i := 41) (oi := { dst := some 118, op := Op.binOp BinOp.eql 4 (Operand.tmp 114) (Operand.tmp 117) 4, type := 4, pos := _, after := #[{ on := 37, ground := Ground.data }, { on := 40, ground := Ground.data }, { on := 29, ground := Ground.guard }], guard := some (29, true) }) (v := undef) rfl (by kernel_rfl) (by kernel_rfl) (by kernel_rfl) (fun _ _ _ h => h) (Or.inr ⟨by rfl, rfl⟩) (by assumption) ?_
    try simp only [Act.put, List.setIfInBounds_toArray, List.set_cons_zero, List.set_cons_succ]
    refine wpAnyH_take (i := 42) (oi := { dst := some 119, op := Op.pick (Operand.tmp 106) (Operand.tmp 118) (Operand.const (Value.bool false)), type := 4, pos := _, after := #[{ on := 29, ground := Ground.data }, { on := 41, ground := Ground.data }], guard := none }) (v := ?_) rfl (by kernel_rfl) (by kernel_rfl) (by kernel_rfl) (fun _ _ _ h => h) (Or.inl ⟨by rfl, ?_⟩) (by assumption) ?_
    rotate_left
    · intro wt hSw; (try dsimp only at hSw); have s0 := cellB hSw s0 z0; have g0 := cellB hSw g0 z1; have g1 := cellB hSw g1 z1; have g2 := cellB hSw g2 z1; have g3 := cellB hSw g3 z1; first | (go_simp; done) | (go_simp; with_reducible rfl) | (trace_state; fail)
    try simp only [Act.put, List.setIfInBounds_toArray, List.set_cons_zero, List.set_cons_succ]
    refine wpAnyH_take (i := 43) (oi := { dst := some 120, op := Op.move (Operand.tmp 119), type := 4, pos := _, after := #[{ on := 42, ground := Ground.data }, { on := 29, ground := Ground.chain }], guard := none }) (v := ?_) rfl (by kernel_rfl) (by kernel_rfl) (by kernel_rfl) (fun _ _ _ h => h) (Or.inl ⟨by rfl, ?_⟩) (by assumption) ?_
    rotate_left
    · intro wt hSw; (try dsimp only at hSw); have s0 := cellB hSw s0 z0; have g0 := cellB hSw g0 z1; have g1 := cellB hSw g1 z1; have g2 := cellB hSw g2 z1; have g3 := cellB hSw g3 z1; first | (go_simp; done) | (go_simp; with_reducible rfl) | (trace_state; fail)
    try simp only [Act.put, List.setIfInBounds_toArray, List.set_cons_zero, List.set_cons_succ]
    refine wpAnyH_take (i := 44) (oi := { dst := some 121, op := Op.move (Operand.tmp 5), type := 3, pos := _, after := #[{ on := 43, ground := Ground.guard }], guard := some (43, true) }) (v := undef) rfl (by kernel_rfl) (by kernel_rfl) (by kernel_rfl) (fun _ _ _ h => h) (Or.inr ⟨by rfl, rfl⟩) (by assumption) ?_
    try simp only [Act.put, List.setIfInBounds_toArray, List.set_cons_zero, List.set_cons_succ]
    refine wpAnyH_take (i := 45) (oi := { dst := some 122, op := Op.binOp BinOp.eql 3 (Operand.tmp 121) (Operand.const (Value.int IntKind.i64 0)) 3, type := 4, pos := _, after := #[{ on := 44, ground := Ground.data }, { on := 43, ground := Ground.guard }], guard := some (43, true) }) (v := undef) rfl (by kernel_rfl) (by kernel_rfl) (by kernel_rfl) (fun _ _ _ h => h) (Or.inr ⟨by rfl, rfl⟩) (by assumption) ?_
    try simp only [Act.put, List.setIfInBounds_toArray, List.set_cons_zero, List.set_cons_succ]
    refine wpAnyH_take (i := 46) (oi := { dst := some 123, op := Op.move (Operand.tmp 122), type := 4, pos := _, after := #[{ on := 45, ground := Ground.data }, { on := 43, ground := Ground.chain }, { on := 43, ground := Ground.guard }], guard := some (43, true) }) (v := undef) rfl (by kernel_rfl) (by kernel_rfl) (by kernel_rfl) (fun _ _ _ h => h) (Or.inr ⟨by rfl, rfl⟩) (by assumption) ?_
    try simp only [Act.put, List.setIfInBounds_toArray, List.set_cons_zero, List.set_cons_succ]
    refine wpAnyH_take (i := 47) (oi := { dst := some 124, op := Op.move (Operand.tmp 6), type := 3, pos := _, after := #[{ on := 46, ground := Ground.guard }], guard := some (46, false) }) (v := undef) rfl (by kernel_rfl) (by kernel_rfl) (by kernel_rfl) (fun _ _ _ h => h) (Or.inr ⟨by rfl, rfl⟩) (by assumption) ?_
    try simp only [Act.put, List.setIfInBounds_toArray, List.set_cons_zero, List.set_cons_succ]
    refine wpAnyH_take (i := 48) (oi := { dst := some 125, op := Op.binOp BinOp.eql 3 (Operand.tmp 124) (Operand.const (Value.int IntKind.i64 2)) 3, type := 4, pos := _, after := #[{ on := 47, ground := Ground.data }, { on := 46, ground := Ground.guard }], guard := some (46, false) }) (v := undef) rfl (by kernel_rfl) (by kernel_rfl) (by kernel_rfl) (fun _ _ _ h => h) (Or.inr ⟨by rfl, rfl⟩) (by assumption) ?_
    try simp only [Act.put, List.setIfInBounds_toArray, List.set_cons_zero, List.set_cons_succ]
    refine wpAnyH_take (i := 49) (oi := { dst := some 126, op := Op.pick (Operand.tmp 123) (Operand.const (Value.bool true)) (Operand.tmp 125), type := 4, pos := _, after := #[{ on := 46, ground := Ground.data }, { on := 48, ground := Ground.data }, { on := 43, ground := Ground.guard }], guard := some (43, true) }) (v := undef) rfl (by kernel_rfl) (by kernel_rfl) (by kernel_rfl) (fun _ _ _ h => h) (Or.inr ⟨by rfl, rfl⟩) (by assumption) ?_
    try simp only [Act.put, List.setIfInBounds_toArray, List.set_cons_zero, List.set_cons_succ]
    refine wpAnyH_take (i := 50) (oi := { dst := some 127, op := Op.pick (Operand.tmp 120) (Operand.tmp 126) (Operand.const (Value.bool false)), type := 4, pos := _, after := #[{ on := 43, ground := Ground.data }, { on := 49, ground := Ground.data }], guard := none }) (v := ?_) rfl (by kernel_rfl) (by kernel_rfl) (by kernel_rfl) (fun _ _ _ h => h) (Or.inl ⟨by rfl, ?_⟩) (by assumption) ?_
    rotate_left
    · intro wt hSw; (try dsimp only at hSw); have s0 := cellB hSw s0 z0; have g0 := cellB hSw g0 z1; have g1 := cellB hSw g1 z1; have g2 := cellB hSw g2 z1; have g3 := cellB hSw g3 z1; first | (go_simp; done) | (go_simp; with_reducible rfl) | (trace_state; fail)
    try simp only [Act.put, List.setIfInBounds_toArray, List.set_cons_zero, List.set_cons_succ]
    refine wpAnyH_done (by kernel_rfl) ?_ _
    have HHw := Lib.hid (HB0.out.trans (hHeld.mono HB0.out.size))
    clear p0 p1 p2 p3 p4
    have g0 := cellB hHeld g0 z1
    have g1 := cellB hHeld g1 z1
    have g2 := cellB hHeld g2 z1
    have g3 := cellB hHeld g3 z1
    have g4 := cellB hHeld g4 z1
    clear hHeld s0
    go_wp2_with fail
    refine (hK0 _).mono ?_; rintro r w2 ⟨rfl, rfl⟩
    go_wp2_with fail
    go_ret
    exact ⟨by rw [hres.out]; rfl, HHw.out⟩
  have e2 : (op == 2) = false := by simpa using h2
  by_cases h4 : op = 4
  · subst h4
    clear h7
    go_upto_region 17 with fail
    refine wp_region_held_drew (S := (fun w' => Below W0.heap.size W0 w')) (by kernel_rfl) ?_ (fun hHeld => ?_)
    · (try dsimp only); first | exact Below.drew hHeld | assumption | (trace_state; fail)
    refine wpAnyH_take (i := 0) (oi := { dst := some 77, op := Op.move (Operand.tmp 5), type := 3, pos := _, after := #[], guard := none }) (v := ?_) rfl (by kernel_rfl) (by kernel_rfl) (by kernel_rfl) (fun _ _ _ h => h) (Or.inl ⟨by rfl, ?_⟩) (by assumption) ?_
    rotate_left
    · intro wt hSw; (try dsimp only at hSw); have s0 := cellB hSw s0 z0; have g0 := cellB hSw g0 z1; have g1 := cellB hSw g1 z1; have g2 := cellB hSw g2 z1; have g3 := cellB hSw g3 z1; first | (go_simp; done) | (go_simp; with_reducible rfl) | (trace_state; fail)
    try simp only [Act.put, List.setIfInBounds_toArray, List.set_cons_zero, List.set_cons_succ]
    refine wpAnyH_take (i := 1) (oi := { dst := some 78, op := Op.fieldAddr 30 (Operand.tmp 3) 0, type := 0, pos := _, after := #[], guard := none }) (v := ?_) rfl (by kernel_rfl) (by kernel_rfl) (by kernel_rfl) (fun _ _ _ h => h) (Or.inl ⟨by rfl, ?_⟩) (by assumption) ?_
    rotate_left
    · intro wt hSw; (try dsimp only at hSw); have s0 := cellB hSw s0 z0; have g0 := cellB hSw g0 z1; have g1 := cellB hSw g1 z1; have g2 := cellB hSw g2 z1; have g3 := cellB hSw g3 z1; first | (go_simp; done) | (go_simp; with_reducible rfl) | (trace_state; fail)
    try simp only [Act.put, List.setIfInBounds_toArray, List.set_cons_zero, List.set_cons_succ]
    refine wpAnyH_take (i := 2) (oi := { dst := some 79, op := Op.load 3 (Operand.tmp 78), type := 3, pos := _, after := #[{ on := 1, ground := Ground.data }], guard := none }) (v := ?_) rfl (by kernel_rfl) (by kernel_rfl) (by kernel_rfl) (fun _ _ _ h => h) (Or.inl ⟨by rfl, ?_⟩) (by assumption) ?_
    rotate_left
    · intro wt hSw; (try dsimp only at hSw); have s0 := cellB hSw s0 z0; have g0 := cellB hSw g0 z1; have g1 := cellB hSw g1 z1; have g2 := cellB hSw g2 z1; have g3 := cellB hSw g3 z1; first | (go_simp; done) | (go_simp; with_reducible rfl) | (trace_state; fail)
    try simp only [Act.put, List.setIfInBounds_toArray, List.set_cons_zero, List.set_cons_succ]
    refine wpAnyH_take (i := 3) (oi := { dst := some 80, op := Op.binOp BinOp.sub 3 (Operand.tmp 79) (Operand.const (Value.int IntKind.i64 2)) 3, type := 3, pos := _, after := #[{ on := 2, ground := Ground.data }], guard := none }) (v := ?_) rfl (by kernel_rfl) (by kernel_rfl) (by kernel_rfl) (fun _ _ _ h => h) (Or.inl ⟨by rfl, ?_⟩) (by assumption) ?_
    rotate_left
    · intro wt hSw; (try dsimp only at hSw); have s0 := cellB hSw s0 z0; have g0 := cellB hSw g0 z1; have g1 := cellB hSw g1 z1; have g2 := cellB hSw g2 z1; have g3 := cellB hSw g3 z1; first | (go_simp; done) | (go_simp; with_reducible rfl) | (trace_state; fail)
    try simp only [Act.put, List.setIfInBounds_toArray, List.set_cons_zero, List.set_cons_succ]
    refine wpAnyH_take (i := 4) (oi := { dst := some 81, op := Op.binOp BinOp.quo 3 (Operand.tmp 80) (Operand.const (Value.int IntKind.i64 2)) 3, type := 3, pos := _, after := #[{ on := 3, ground := Ground.data }], guard := none }) (v := ?_) rfl (by kernel_rfl) (by kernel_rfl) (by kernel_rfl) (fun _ _ _ h => h) (Or.inl ⟨by rfl, ?_⟩) (by assumption) ?_
    rotate_left
    · intro wt hSw; (try dsimp only at hSw); have s0 := cellB hSw s0 z0; have g0 := cellB hSw g0 z1; have g1 := cellB hSw g1 z1; have g2 := cellB hSw g2 z1; have g3 := cellB hSw g3 z1; first | (go_simp; done) | (go_simp; with_reducible rfl) | (trace_state; fail)
    try simp only [Act.put, List.setIfInBounds_toArray, List.set_cons_zero, List.set_cons_succ]
    refine wpAnyH_take (i := 5) (oi := { dst := some 82, op := Op.binOp BinOp.eql 3 (Operand.tmp 77) (Operand.tmp 81) 3, type := 4, pos := _, after := #[{ on := 0, ground := Ground.data }, { on := 4, ground := Ground.data }], guard := none }) (v := ?_) rfl (by kernel_rfl) (by kernel_rfl) (by kernel_rfl) (fun _ _ _ h => h) (Or.inl ⟨by rfl, ?_⟩) (by assumption) ?_
    rotate_left
    · intro wt hSw; (try dsimp only at hSw); have s0 := cellB hSw s0 z0; have g0 := cellB hSw g0 z1; have g1 := cellB hSw g1 z1; have g2 := cellB hSw g2 z1; have g3 := cellB hSw g3 z1; first | (go_simp; done) | (go_simp; with_reducible rfl) | (trace_state; fail)
    try simp only [Act.put, List.setIfInBounds_toArray, List.set_cons_zero, List.set_cons_succ]
    refine wpAnyH_take (i := 6) (oi := { dst := some 83, op := Op.move (Operand.tmp 82), type := 4, pos := _, after := #[{ on := 5, ground := Ground.data }], guard := none }) (v := ?_) rfl (by kernel_rfl) (by kernel_rfl) (by kernel_rfl) (fun _ _ _ h => h) (Or.inl ⟨by rfl, ?_⟩) (by assumption) ?_
    rotate_left
    · intro wt hSw; (try dsimp only at hSw); have s0 := cellB hSw s0 z0; have g0 := cellB hSw g0 z1; have g1 := cellB hSw g1 z1; have g2 := cellB hSw g2 z1; have g3 := cellB hSw g3 z1; first | (go_simp; done) | (go_simp; with_reducible rfl) | (trace_state; fail)
    try simp only [Act.put, List.setIfInBounds_toArray, List.set_cons_zero, List.set_cons_succ]
    refine wpAnyH_take (i := 7) (oi := { dst := some 84, op := Op.fieldAddr 30 (Operand.tmp 3) 1, type := 0, pos := _, after := #[{ on := 6, ground := Ground.guard }], guard := some (6, true) }) (v := undef) rfl (by kernel_rfl) (by kernel_rfl) (by kernel_rfl) (fun _ _ _ h => h) (Or.inr ⟨by rfl, rfl⟩) (by assumption) ?_
    try simp only [Act.put, List.setIfInBounds_toArray, List.set_cons_zero, List.set_cons_succ]
    refine wpAnyH_take (i := 8) (oi := { dst := some 85, op := Op.load 3 (Operand.tmp 84), type := 3, pos := _, after := #[{ on := 7, ground := Ground.data }, { on := 6, ground := Ground.guard }], guard := some (6, true) }) (v := undef) rfl (by kernel_rfl) (by kernel_rfl) (by kernel_rfl) (fun _ _ _ h => h) (Or.inr ⟨by rfl, rfl⟩) (by assumption) ?_
    try simp only [Act.put, List.setIfInBounds_toArray, List.set_cons_zero, List.set_cons_succ]
    refine wpAnyH_take (i := 9) (oi := { dst := some 86, op := Op.binOp BinOp.eql 3 (Operand.tmp 85) (Operand.const (Value.int IntKind.i64 0)) 3, type := 4, pos := _, after := #[{ on := 8, ground := Ground.data }, { on := 6, ground := Ground.guard }], guard := some (6, true) }) (v := undef) rfl (by kernel_rfl) (by kernel_rfl) (by kernel_rfl) (fun _ _ _ h => h) (Or.inr ⟨by rfl, rfl⟩) (by assumption) ?_
    try simp only [Act.put, List.setIfInBounds_toArray, List.set_cons_zero, List.set_cons_succ]
    refine wpAnyH_take (i := 10) (oi := { dst := some 87, op := Op.pick (Operand.tmp 83) (Operand.tmp 86) (Operand.const (Value.bool false)), type := 4, pos := _, after := #[{ on := 6, ground := Ground.data }, { on := 9, ground := Ground.data }], guard := none }) (v := ?_) rfl (by kernel_rfl) (by kernel_rfl) (by kernel_rfl) (fun _ _ _ h => h) (Or.inl ⟨by rfl, ?_⟩) (by assumption) ?_
    rotate_left
    · intro wt hSw; (try dsimp only at hSw); have s0 := cellB hSw s0 z0; have g0 := cellB hSw g0 z1; have g1 := cellB hSw g1 z1; have g2 := cellB hSw g2 z1; have g3 := cellB hSw g3 z1; first | (go_simp; done) | (go_simp; with_reducible rfl) | (trace_state; fail)
    try simp only [Act.put, List.setIfInBounds_toArray, List.set_cons_zero, List.set_cons_succ]
    refine wpAnyH_take (i := 11) (oi := { dst := some 88, op := Op.move (Operand.tmp 87), type := 4, pos := _, after := #[{ on := 10, ground := Ground.data }, { on := 6, ground := Ground.chain }], guard := none }) (v := ?_) rfl (by kernel_rfl) (by kernel_rfl) (by kernel_rfl) (fun _ _ _ h => h) (Or.inl ⟨by rfl, ?_⟩) (by assumption) ?_
    rotate_left
    · intro wt hSw; (try dsimp only at hSw); have s0 := cellB hSw s0 z0; have g0 := cellB hSw g0 z1; have g1 := cellB hSw g1 z1; have g2 := cellB hSw g2 z1; have g3 := cellB hSw g3 z1; first | (go_simp; done) | (go_simp; with_reducible rfl) | (trace_state; fail)
    try simp only [Act.put, List.setIfInBounds_toArray, List.set_cons_zero, List.set_cons_succ]
    refine wpAnyH_take (i := 12) (oi := { dst := some 89, op := Op.fieldAddr 30 (Operand.tmp 3) 3, type := 0, pos := _, after := #[{ on := 11, ground := Ground.guard }], guard := some (11, true) }) (v := undef) rfl (by kernel_rfl) (by kernel_rfl) (by kernel_rfl) (fun _ _ _ h => h) (Or.inr ⟨by rfl, rfl⟩) (by assumption) ?_
    try simp only [Act.put, List.setIfInBounds_toArray, List.set_cons_zero, List.set_cons_succ]
    refine wpAnyH_take (i := 13) (oi := { dst := some 90, op := Op.load 3 (Operand.tmp 89), type := 3, pos := _, after := #[{ on := 12, ground := Ground.data }, { on := 11, ground := Ground.guard }], guard := some (11, true) }) (v := undef) rfl (by kernel_rfl) (by kernel_rfl) (by kernel_rfl) (fun _ _ _ h => h) (Or.inr ⟨by rfl, rfl⟩) (by assumption) ?_
    try simp only [Act.put, List.setIfInBounds_toArray, List.set_cons_zero, List.set_cons_succ]
    refine wpAnyH_take (i := 14) (oi := { dst := some 91, op := Op.binOp BinOp.eql 3 (Operand.tmp 90) (Operand.const (Value.int IntKind.i64 0)) 3, type := 4, pos := _, after := #[{ on := 13, ground := Ground.data }, { on := 11, ground := Ground.guard }], guard := some (11, true) }) (v := undef) rfl (by kernel_rfl) (by kernel_rfl) (by kernel_rfl) (fun _ _ _ h => h) (Or.inr ⟨by rfl, rfl⟩) (by assumption) ?_
    try simp only [Act.put, List.setIfInBounds_toArray, List.set_cons_zero, List.set_cons_succ]
    refine wpAnyH_take (i := 15) (oi := { dst := some 92, op := Op.pick (Operand.tmp 88) (Operand.tmp 91) (Operand.const (Value.bool false)), type := 4, pos := _, after := #[{ on := 11, ground := Ground.data }, { on := 14, ground := Ground.data }], guard := none }) (v := ?_) rfl (by kernel_rfl) (by kernel_rfl) (by kernel_rfl) (fun _ _ _ h => h) (Or.inl ⟨by rfl, ?_⟩) (by assumption) ?_
    rotate_left
    · intro wt hSw; (try dsimp only at hSw); have s0 := cellB hSw s0 z0; have g0 := cellB hSw g0 z1; have g1 := cellB hSw g1 z1; have g2 := cellB hSw g2 z1; have g3 := cellB hSw g3 z1; first | (go_simp; done) | (go_simp; with_reducible rfl) | (trace_state; fail)
    try simp only [Act.put, List.setIfInBounds_toArray, List.set_cons_zero, List.set_cons_succ]
    refine wpAnyH_take (i := 16) (oi := { dst := some 93, op := Op.move (Operand.tmp 92), type := 4, pos := _, after := #[{ on := 15, ground := Ground.data }, { on := 11, ground := Ground.chain }], guard := none }) (v := ?_) rfl (by kernel_rfl) (by kernel_rfl) (by kernel_rfl) (fun _ _ _ h => h) (Or.inl ⟨by rfl, ?_⟩) (by assumption) ?_
    rotate_left
    · intro wt hSw; (try dsimp only at hSw); have s0 := cellB hSw s0 z0; have g0 := cellB hSw g0 z1; have g1 := cellB hSw g1 z1; have g2 := cellB hSw g2 z1; have g3 := cellB hSw g3 z1; first | (go_simp; done) | (go_simp; with_reducible rfl) | (trace_state; fail)
    try simp only [Act.put, List.setIfInBounds_toArray, List.set_cons_zero, List.set_cons_succ]
    refine wpAnyH_take (i := 17) (oi := { dst := some 94, op := Op.fieldAddr 30 (Operand.tmp 3) 2, type := 0, pos := _, after := #[{ on := 16, ground := Ground.guard }], guard := some (16, true) }) (v := undef) rfl (by kernel_rfl) (by kernel_rfl) (by kernel_rfl) (fun _ _ _ h => h) (Or.inr ⟨by rfl, rfl⟩) (by assumption) ?_
    try simp only [Act.put, List.setIfInBounds_toArray, List.set_cons_zero, List.set_cons_succ]
    refine wpAnyH_take (i := 18) (oi := { dst := some 95, op := Op.load 3 (Operand.tmp 94), type := 3, pos := _, after := #[{ on := 17, ground := Ground.data }, { on := 16, ground := Ground.guard }], guard := some (16, true) }) (v := undef) rfl (by kernel_rfl) (by kernel_rfl) (by kernel_rfl) (fun _ _ _ h => h) (Or.inr ⟨by rfl, rfl⟩) (by assumption) ?_
    try simp only [Act.put, List.setIfInBounds_toArray, List.set_cons_zero, List.set_cons_succ]
    refine wpAnyH_take (i := 19) (oi := { dst := some 96, op := Op.binOp BinOp.geq 3 (Operand.tmp 95) (Operand.const (Value.int IntKind.i64 0)) 3, type := 4, pos := _, after := #[{ on := 18, ground := Ground.data }, { on := 16, ground := Ground.guard }], guard := some (16, true) }) (v := undef) rfl (by kernel_rfl) (by kernel_rfl) (by kernel_rfl) (fun _ _ _ h => h) (Or.inr ⟨by rfl, rfl⟩) (by assumption) ?_
    try simp only [Act.put, List.setIfInBounds_toArray, List.set_cons_zero, List.set_cons_succ]
    refine wpAnyH_take (i := 20) (oi := { dst := some 97, op := Op.pick (Operand.tmp 93) (Operand.tmp 96) (Operand.const (Value.bool false)), type := 4, pos := _, after := #[{ on := 16, ground := Ground.data }, { on := 19, ground := Ground.data }], guard := none }) (v := ?_) rfl (by kernel_rfl) (by kernel_rfl) (by kernel_rfl) (fun _ _ _ h => h) (Or.inl ⟨by rfl, ?_⟩) (by assumption) ?_
    rotate_left
    · intro wt hSw; (try dsimp only at hSw); have s0 := cellB hSw s0 z0; have g0 := cellB hSw g0 z1; have g1 := cellB hSw g1 z1; have g2 := cellB hSw g2 z1; have g3 := cellB hSw g3 z1; first | (go_simp; done) | (go_simp; with_reducible rfl) | (trace_state; fail)
    try simp only [Act.put, List.setIfInBounds_toArray, List.set_cons_zero, List.set_cons_succ]
    refine wpAnyH_take (i := 21) (oi := { dst := some 98, op := Op.move (Operand.tmp 97), type := 4, pos := _, after := #[{ on := 20, ground := Ground.data }, { on := 16, ground := Ground.chain }], guard := none }) (v := ?_) rfl (by kernel_rfl) (by kernel_rfl) (by kernel_rfl) (fun _ _ _ h => h) (Or.inl ⟨by rfl, ?_⟩) (by assumption) ?_
    rotate_left
    · intro wt hSw; (try dsimp only at hSw); have s0 := cellB hSw s0 z0; have g0 := cellB hSw g0 z1; have g1 := cellB hSw g1 z1; have g2 := cellB hSw g2 z1; have g3 := cellB hSw g3 z1; first | (go_simp; done) | (go_simp; with_reducible rfl) | (trace_state; fail)
    try simp only [Act.put, List.setIfInBounds_toArray, List.set_cons_zero, List.set_cons_succ]
    refine wpAnyH_take (i := 22) (oi := { dst := some 99, op := Op.fieldAddr 30 (Operand.tmp 3) 2, type := 0, pos := _, after := #[{ on := 21, ground := Ground.guard }], guard := some (21, true) }) (v := undef) rfl (by kernel_rfl) (by kernel_rfl) (by kernel_rfl) (fun _ _ _ h => h) (Or.inr ⟨by rfl, rfl⟩) (by assumption) ?_
    try simp only [Act.put, List.setIfInBounds_toArray, List.set_cons_zero, List.set_cons_succ]
    refine wpAnyH_take (i := 23) (oi := { dst := some 100, op := Op.load 3 (Operand.tmp 99), type := 3, pos := _, after := #[{ on := 22, ground := Ground.data }, { on := 21, ground := Ground.guard }], guard := some (21, true) }) (v := undef) rfl (by kernel_rfl) (by kernel_rfl) (by kernel_rfl) (fun _ _ _ h => h) (Or.inr ⟨by rfl, rfl⟩) (by assumption) ?_
    try simp only [Act.put, List.setIfInBounds_toArray, List.set_cons_zero, List.set_cons_succ]
    refine wpAnyH_take (i := 24) (oi := { dst := some 101, op := Op.fieldAddr 37 (Operand.tmp 2) 0, type := 0, pos := _, after := #[{ on := 21, ground := Ground.guard }], guard := some (21, true) }) (v := undef) rfl (by kernel_rfl) (by kernel_rfl) (by kernel_rfl) (fun _ _ _ h => h) (Or.inr ⟨by rfl, rfl⟩) (by assumption) ?_
    try simp only [Act.put, List.setIfInBounds_toArray, List.set_cons_zero, List.set_cons_succ]
    refine wpAnyH_take (i := 25) (oi := { dst := some 102, op := Op.load 23 (Operand.tmp 101), type := 23, pos := _, after := #[{ on := 24, ground := Ground.data }, { on := 21, ground := Ground.guard }], guard := some (21, true) }) (v := undef) rfl (by kernel_rfl) (by kernel_rfl) (by kernel_rfl) (fun _ _ _ h => h) (Or.inr ⟨by rfl, rfl⟩) (by assumption) ?_
    try simp only [Act.put, List.setIfInBounds_toArray, List.set_cons_zero, List.set_cons_succ]
    refine wpAnyH_take (i := 26) (oi := { dst := some 103, op := Op.call { callee := Callee.builtin Builtin.len, args := #[Operand.tmp 102], argTypes := #[23] }, type := 3, pos := _, after := #[{ on := 25, ground := Ground.data }, { on := 21, ground := Ground.guard }], guard := some (21, true) }) (v := undef) rfl (by kernel_rfl) (by kernel_rfl) (by kernel_rfl) (fun _ _ _ h => h) (Or.inr ⟨by rfl, rfl⟩) (by assumption) ?_
    try simp only [Act.put, List.setIfInBounds_toArray, List.set_cons_zero, List.set_cons_succ]
    refine wpAnyH_take (i := 27) (oi := { dst := some 104, op := Op.binOp BinOp.lss 3 (Operand.tmp 100) (Operand.tmp 103) 3, type := 4, pos := _, after := #[{ on := 23, ground := Ground.data }, { on := 26, ground := Ground.data }, { on := 21, ground := Ground.guard }], guard := some (21, true) }) (v := undef) rfl (by kernel_rfl) (by kernel_rfl) (by kernel_rfl) (fun _ _ _ h => h) (Or.inr ⟨by rfl, rfl⟩) (by assumption) ?_
    try simp only [Act.put, List.setIfInBounds_toArray, List.set_cons_zero, List.set_cons_succ]
    refine wpAnyH_take (i := 28) (oi := { dst := some 105, op := Op.pick (Operand.tmp 98) (Operand.tmp 104) (Operand.const (Value.bool false)), type := 4, pos := _, after := #[{ on := 21, ground := Ground.data }, { on := 27, ground := Ground.data }], guard := none }) (v := ?_) rfl (by kernel_rfl) (by kernel_rfl) (by kernel_rfl) (fun _ _ _ h => h) (Or.inl ⟨by rfl, ?_⟩) (by assumption) ?_
    rotate_left
    · intro wt hSw; (try dsimp only at hSw); have s0 := cellB hSw s0 z0; have g0 := cellB hSw g0 z1; have g1 := cellB hSw g1 z1; have g2 := cellB hSw g2 z1; have g3 := cellB hSw g3 z1; first | (go_simp; done) | (go_simp; with_reducible rfl) | (trace_state; fail)
    try simp only [Act.put, List.setIfInBounds_toArray, List.set_cons_zero, List.set_cons_succ]
    refine wpAnyH_take (i := 29) (oi := { dst := some 106, op := Op.move (Operand.tmp 105), type := 4, pos := _, after := #[{ on := 28, ground := Ground.data }, { on := 21, ground := Ground.chain }], guard := none }) (v := ?_) rfl (by kernel_rfl) (by kernel_rfl) (by kernel_rfl) (fun _ _ _ h => h) (Or.inl ⟨by rfl, ?_⟩) (by assumption) ?_
    rotate_left
    · intro wt hSw; (try dsimp only at hSw); have s0 := cellB hSw s0 z0; have g0 := cellB hSw g0 z1; have g1 := cellB hSw g1 z1; have g2 := cellB hSw g2 z1; have g3 := cellB hSw g3 z1; first | (go_simp; done) | (go_simp; with_reducible rfl) | (trace_state; fail)
    try simp only [Act.put, List.setIfInBounds_toArray, List.set_cons_zero, List.set_cons_succ]
    refine wpAnyH_take (i := 30) (oi := { dst := some 107, op := Op.fieldAddr 37 (Operand.tmp 2) 0, type := 0, pos := _, after := #[{ on := 29, ground := Ground.guard }], guard := some (29, true) }) (v := undef) rfl (by kernel_rfl) (by kernel_rfl) (by kernel_rfl) (fun _ _ _ h => h) (Or.inr ⟨by rfl, rfl⟩) (by assumption) ?_
    try simp only [Act.put, List.setIfInBounds_toArray, List.set_cons_zero, List.set_cons_succ]
    refine wpAnyH_take (i := 31) (oi := { dst := some 108, op := Op.load 23 (Operand.tmp 107), type := 23, pos := _, after := #[{ on := 30, ground := Ground.data }, { on := 29, ground := Ground.guard }], guard := some (29, true) }) (v := undef) rfl (by kernel_rfl) (by kernel_rfl) (by kernel_rfl) (fun _ _ _ h => h) (Or.inr ⟨by rfl, rfl⟩) (by assumption) ?_
    try simp only [Act.put, List.setIfInBounds_toArray, List.set_cons_zero, List.set_cons_succ]
    refine wpAnyH_take (i := 32) (oi := { dst := some 109, op := Op.fieldAddr 30 (Operand.tmp 3) 2, type := 0, pos := _, after := #[{ on := 29, ground := Ground.guard }], guard := some (29, true) }) (v := undef) rfl (by kernel_rfl) (by kernel_rfl) (by kernel_rfl) (fun _ _ _ h => h) (Or.inr ⟨by rfl, rfl⟩) (by assumption) ?_
    try simp only [Act.put, List.setIfInBounds_toArray, List.set_cons_zero, List.set_cons_succ]
    refine wpAnyH_take (i := 33) (oi := { dst := some 110, op := Op.load 3 (Operand.tmp 109), type := 3, pos := _, after := #[{ on := 32, ground := Ground.data }, { on := 29, ground := Ground.guard }], guard := some (29, true) }) (v := undef) rfl (by kernel_rfl) (by kernel_rfl) (by kernel_rfl) (fun _ _ _ h => h) (Or.inr ⟨by rfl, rfl⟩) (by assumption) ?_
    try simp only [Act.put, List.setIfInBounds_toArray, List.set_cons_zero, List.set_cons_succ]
    refine wpAnyH_take (i := 34) (oi := { dst := some 111, op := Op.indexAddr 23 (Operand.tmp 108) (Operand.tmp 110), type := 0, pos := _, after := #[{ on := 31, ground := Ground.data }, { on := 33, ground := Ground.data }, { on := 29, ground := Ground.guard }], guard := some (29, true) }) (v := undef) rfl (by kernel_rfl) (by kernel_rfl) (by kernel_rfl) (fun _ _ _ h => h) (Or.inr ⟨by rfl, rfl⟩) (by assumption) ?_
    try simp only [Act.put, List.setIfInBounds_toArray, List.set_cons_zero, List.set_cons_succ]
    refine wpAnyH_take (i := 35) (oi := { dst := some 112, op := Op.fieldAddr 45 (Operand.tmp 111) 2, type := 0, pos := _, after := #[{ on := 34, ground := Ground.data }, { on := 29, ground := Ground.guard }], guard := some (29, true) }) (v := undef) rfl (by kernel_rfl) (by kernel_rfl) (by kernel_rfl) (fun _ _ _ h => h) (Or.inr ⟨by rfl, rfl⟩) (by assumption) ?_
    try simp only [Act.put, List.setIfInBounds_toArray, List.set_cons_zero, List.set_cons_succ]
    refine wpAnyH_take (i := 36) (oi := { dst := some 113, op := Op.load 3 (Operand.tmp 112), type := 3, pos := _, after := #[{ on := 35, ground := Ground.data }, { on := 29, ground := Ground.guard }], guard := some (29, true) }) (v := undef) rfl (by kernel_rfl) (by kernel_rfl) (by kernel_rfl) (fun _ _ _ h => h) (Or.inr ⟨by rfl, rfl⟩) (by assumption) ?_
    try simp only [Act.put, List.setIfInBounds_toArray, List.set_cons_zero, List.set_cons_succ]
    refine wpAnyH_take (i := 37) (oi := { dst := some 114, op := Op.binOp BinOp.gtr 3 (Operand.tmp 113) (Operand.const (Value.int IntKind.i64 1)) 3, type := 4, pos := _, after := #[{ on := 36, ground := Ground.data }, { on := 29, ground := Ground.guard }], guard := some (29, true) }) (v := undef) rfl (by kernel_rfl) (by kernel_rfl) (by kernel_rfl) (fun _ _ _ h => h) (Or.inr ⟨by rfl, rfl⟩) (by assumption) ?_
    try simp only [Act.put, List.setIfInBounds_toArray, List.set_cons_zero, List.set_cons_succ]
    refine wpAnyH_take (i := 38) (oi := { dst := some 115, op := Op.fieldAddr 30 (Operand.tmp 3) 0, type := 0, pos := _, after := #[{ on := 29, ground := Ground.guard }], guard := some (29, true) }) (v := undef) rfl (by kernel_rfl) (by kernel_rfl) (by kernel_rfl) (fun _ _ _ h => h) (Or.inr ⟨by rfl, rfl⟩) (by assumption) ?_
    try simp only [Act.put, List.setIfInBounds_toArray, List.set_cons_zero, List.set_cons_succ]
    refine wpAnyH_take (i := 39) (oi := { dst := some 116, op := Op.load 3 (Operand.tmp 115), type := 3, pos := _, after := #[{ on := 38, ground := Ground.data }, { on := 29, ground := Ground.guard }], guard := some (29, true) }) (v := undef) rfl (by kernel_rfl) (by kernel_rfl) (by kernel_rfl) (fun _ _ _ h => h) (Or.inr ⟨by rfl, rfl⟩) (by assumption) ?_
    try simp only [Act.put, List.setIfInBounds_toArray, List.set_cons_zero, List.set_cons_succ]
    refine wpAnyH_take (i := 40) (oi := { dst := some 117, op := Op.binOp BinOp.eql 3 (Operand.tmp 116) (Operand.const (Value.int IntKind.i64 4)) 3, type := 4, pos := _, after := #[{ on := 39, ground := Ground.data }, { on := 29, ground := Ground.guard }], guard := some (29, true) }) (v := undef) rfl (by kernel_rfl) (by kernel_rfl) (by kernel_rfl) (fun _ _ _ h => h) (Or.inr ⟨by rfl, rfl⟩) (by assumption) ?_
    try simp only [Act.put, List.setIfInBounds_toArray, List.set_cons_zero, List.set_cons_succ]
    refine wpAnyH_take (i := 41) (oi := { dst := some 118, op := Op.binOp BinOp.eql 4 (Operand.tmp 114) (Operand.tmp 117) 4, type := 4, pos := _, after := #[{ on := 37, ground := Ground.data }, { on := 40, ground := Ground.data }, { on := 29, ground := Ground.guard }], guard := some (29, true) }) (v := undef) rfl (by kernel_rfl) (by kernel_rfl) (by kernel_rfl) (fun _ _ _ h => h) (Or.inr ⟨by rfl, rfl⟩) (by assumption) ?_
    try simp only [Act.put, List.setIfInBounds_toArray, List.set_cons_zero, List.set_cons_succ]
    refine wpAnyH_take (i := 42) (oi := { dst := some 119, op := Op.pick (Operand.tmp 106) (Operand.tmp 118) (Operand.const (Value.bool false)), type := 4, pos := _, after := #[{ on := 29, ground := Ground.data }, { on := 41, ground := Ground.data }], guard := none }) (v := ?_) rfl (by kernel_rfl) (by kernel_rfl) (by kernel_rfl) (fun _ _ _ h => h) (Or.inl ⟨by rfl, ?_⟩) (by assumption) ?_
    rotate_left
    · intro wt hSw; (try dsimp only at hSw); have s0 := cellB hSw s0 z0; have g0 := cellB hSw g0 z1; have g1 := cellB hSw g1 z1; have g2 := cellB hSw g2 z1; have g3 := cellB hSw g3 z1; first | (go_simp; done) | (go_simp; with_reducible rfl) | (trace_state; fail)
    try simp only [Act.put, List.setIfInBounds_toArray, List.set_cons_zero, List.set_cons_succ]
    refine wpAnyH_take (i := 43) (oi := { dst := some 120, op := Op.move (Operand.tmp 119), type := 4, pos := _, after := #[{ on := 42, ground := Ground.data }, { on := 29, ground := Ground.chain }], guard := none }) (v := ?_) rfl (by kernel_rfl) (by kernel_rfl) (by kernel_rfl) (fun _ _ _ h => h) (Or.inl ⟨by rfl, ?_⟩) (by assumption) ?_
    rotate_left
    · intro wt hSw; (try dsimp only at hSw); have s0 := cellB hSw s0 z0; have g0 := cellB hSw g0 z1; have g1 := cellB hSw g1 z1; have g2 := cellB hSw g2 z1; have g3 := cellB hSw g3 z1; first | (go_simp; done) | (go_simp; with_reducible rfl) | (trace_state; fail)
    try simp only [Act.put, List.setIfInBounds_toArray, List.set_cons_zero, List.set_cons_succ]
    refine wpAnyH_take (i := 44) (oi := { dst := some 121, op := Op.move (Operand.tmp 5), type := 3, pos := _, after := #[{ on := 43, ground := Ground.guard }], guard := some (43, true) }) (v := undef) rfl (by kernel_rfl) (by kernel_rfl) (by kernel_rfl) (fun _ _ _ h => h) (Or.inr ⟨by rfl, rfl⟩) (by assumption) ?_
    try simp only [Act.put, List.setIfInBounds_toArray, List.set_cons_zero, List.set_cons_succ]
    refine wpAnyH_take (i := 45) (oi := { dst := some 122, op := Op.binOp BinOp.eql 3 (Operand.tmp 121) (Operand.const (Value.int IntKind.i64 0)) 3, type := 4, pos := _, after := #[{ on := 44, ground := Ground.data }, { on := 43, ground := Ground.guard }], guard := some (43, true) }) (v := undef) rfl (by kernel_rfl) (by kernel_rfl) (by kernel_rfl) (fun _ _ _ h => h) (Or.inr ⟨by rfl, rfl⟩) (by assumption) ?_
    try simp only [Act.put, List.setIfInBounds_toArray, List.set_cons_zero, List.set_cons_succ]
    refine wpAnyH_take (i := 46) (oi := { dst := some 123, op := Op.move (Operand.tmp 122), type := 4, pos := _, after := #[{ on := 45, ground := Ground.data }, { on := 43, ground := Ground.chain }, { on := 43, ground := Ground.guard }], guard := some (43, true) }) (v := undef) rfl (by kernel_rfl) (by kernel_rfl) (by kernel_rfl) (fun _ _ _ h => h) (Or.inr ⟨by rfl, rfl⟩) (by assumption) ?_
    try simp only [Act.put, List.setIfInBounds_toArray, List.set_cons_zero, List.set_cons_succ]
    refine wpAnyH_take (i := 47) (oi := { dst := some 124, op := Op.move (Operand.tmp 6), type := 3, pos := _, after := #[{ on := 46, ground := Ground.guard }], guard := some (46, false) }) (v := undef) rfl (by kernel_rfl) (by kernel_rfl) (by kernel_rfl) (fun _ _ _ h => h) (Or.inr ⟨by rfl, rfl⟩) (by assumption) ?_
    try simp only [Act.put, List.setIfInBounds_toArray, List.set_cons_zero, List.set_cons_succ]
    refine wpAnyH_take (i := 48) (oi := { dst := some 125, op := Op.binOp BinOp.eql 3 (Operand.tmp 124) (Operand.const (Value.int IntKind.i64 2)) 3, type := 4, pos := _, after := #[{ on := 47, ground := Ground.data }, { on := 46, ground := Ground.guard }], guard := some (46, false) }) (v := undef) rfl (by kernel_rfl) (by kernel_rfl) (by kernel_rfl) (fun _ _ _ h => h) (Or.inr ⟨by rfl, rfl⟩) (by assumption) ?_
    try simp only [Act.put, List.setIfInBounds_toArray, List.set_cons_zero, List.set_cons_succ]
    refine wpAnyH_take (i := 49) (oi := { dst := some 126, op := Op.pick (Operand.tmp 123) (Operand.const (Value.bool true)) (Operand.tmp 125), type := 4, pos := _, after := #[{ on := 46, ground := Ground.data }, { on := 48, ground := Ground.data }, { on := 43, ground := Ground.guard }], guard := some (43, true) }) (v := undef) rfl (by kernel_rfl) (by kernel_rfl) (by kernel_rfl) (fun _ _ _ h => h) (Or.inr ⟨by rfl, rfl⟩) (by assumption) ?_
    try simp only [Act.put, List.setIfInBounds_toArray, List.set_cons_zero, List.set_cons_succ]
    refine wpAnyH_take (i := 50) (oi := { dst := some 127, op := Op.pick (Operand.tmp 120) (Operand.tmp 126) (Operand.const (Value.bool false)), type := 4, pos := _, after := #[{ on := 43, ground := Ground.data }, { on := 49, ground := Ground.data }], guard := none }) (v := ?_) rfl (by kernel_rfl) (by kernel_rfl) (by kernel_rfl) (fun _ _ _ h => h) (Or.inl ⟨by rfl, ?_⟩) (by assumption) ?_
    rotate_left
    · intro wt hSw; (try dsimp only at hSw); have s0 := cellB hSw s0 z0; have g0 := cellB hSw g0 z1; have g1 := cellB hSw g1 z1; have g2 := cellB hSw g2 z1; have g3 := cellB hSw g3 z1; first | (go_simp; done) | (go_simp; with_reducible rfl) | (trace_state; fail)
    try simp only [Act.put, List.setIfInBounds_toArray, List.set_cons_zero, List.set_cons_succ]
    refine wpAnyH_done (by kernel_rfl) ?_ _
    have HHw := Lib.hid (HB0.out.trans (hHeld.mono HB0.out.size))
    clear p0 p1 p2 p3 p4
    have g0 := cellB hHeld g0 z1
    have g1 := cellB hHeld g1 z1
    have g2 := cellB hHeld g2 z1
    have g3 := cellB hHeld g3 z1
    have g4 := cellB hHeld g4 z1
    clear hHeld s0
    go_wp2_with fail
    refine (hK0 _).mono ?_; rintro r w2 ⟨rfl, rfl⟩
    go_wp2_with fail
    go_ret
    exact ⟨by rw [hres.out]; rfl, HHw.out⟩
  have e4 : (op == 4) = false := by simpa using h4
  by_cases h1 : op = 1
  · subst h1
    clear h7 h2 h4
    clear hHeld s0
    go_wp2_with fail
    refine (hK0 _).mono ?_; rintro r w2 ⟨rfl, rfl⟩
    go_wp2_with fail
    go_ret
    exact ⟨by rw [hres.out]; rfl, HHw.out⟩
  have e1 : (op == 1) = false := by simpa using h1
  by_cases h3 : op = 3
  · subst h3
    clear h7 h2 h4
    clear hHeld s0
    go_wp2_with fail
    refine (hK0 _).mono ?_; rintro r w2 ⟨rfl, rfl⟩
    go_wp2_with fail
    go_ret
    exact ⟨by rw [hres.out]; rfl, HHw.out⟩
  have e3 : (op == 3) = false := by simpa using h3
  by_cases h5 : op = 5
  · subst h5
    clear h7 h2 h4
    clear hHeld s0
    go_wp2_with fail
    refine (hK0 _).mono ?_; rintro r w2 ⟨rfl, rfl⟩
    go_wp2_with fail
    go_ret
    exact ⟨by rw [hres.out]; rfl, HHw.out⟩
  have e5 : (op == 5) = false := by simpa using h5
  by_cases h6 : op = 6
  · subst h6
    clear h7 h2 h4
    clear hHeld s0
    go_wp2_with fail
    refine (hK0 _).mono ?_; rintro r w2 ⟨rfl, rfl⟩
    go_wp2_with fail
    go_ret
    exact ⟨by rw [hres.out]; rfl, HHw.out⟩
  have e6 : (op == 6) = false := by simpa using h6
  by_cases h8 : op = 8
  · subst h8
    clear h7 h2 h4
    clear hHeld s0
    go_wp2_with fail
    refine (hK0 _).mono ?_; rintro r w2 ⟨rfl, rfl⟩
    go_wp2_with fail
    go_ret
    exact ⟨by rw [hres.out]; rfl, HHw.out⟩
  have e8 : (op == 8) = false := by simpa using h8
  clear h7 h2 h4 h1 h3 h5 h6 h8
  clear hHeld s0
  go_wp2_with fail
  refine (hK0 _).mono ?_; rintro r w2 ⟨rfl, rfl⟩
  go_wp2_with fail
  go_ret
  exact ⟨by rw [hres.out]; rfl, HHw.out⟩
end Go.Proofs.YtpecpeedefeokaaDoor

/- Layer 26: the document's Type, of any expression. -/
namespace Go.Proofs.YtpecpeedefeokaaDoor
open Go.RowKit
set_option linter.unusedSimpArgs false
set_option linter.unusedVariables false
theorem typeE_nil (s : Sc) (op t n m : Int) : typeE s ⟨op, t, n, m, []⟩ = leafT s ⟨op, t, n, m, []⟩ := by rw [typeE_mk]; rfl
theorem typeE_one (s : Sc) (op t n m : Int) (x : Ex) : typeE s ⟨op, t, n, m, [x]⟩ = if typeE s x = 0 then 0 else singleT s ⟨op, t, n, m, [x]⟩ (typeE s x) := by
  rw [typeE_mk]
  show typeF s _ [typeE s x] = _
  unfold typeF
  by_cases h : typeE s x = 0 <;> simp [h]
theorem typeE_two (s : Sc) (op t n m : Int) (x y : Ex) : typeE s ⟨op, t, n, m, [x, y]⟩ = if typeE s x = 0 ∨ typeE s y = 0 then 0 else doubleT ⟨op, t, n, m, [x, y]⟩ (typeE s x) (typeE s y) := by
  rw [typeE_mk]
  show typeF s _ [typeE s x, typeE s y] = _
  unfold typeF
  by_cases h : typeE s x = 0 <;> by_cases h' : typeE s y = 0 <;> simp [h, h']
theorem typeE_more (s : Sc) (op t n m : Int) (x y z : Ex) (l : List Ex) : typeE s ⟨op, t, n, m, x :: y :: z :: l⟩ = 0 := by
  rw [typeE_mk]
  show typeF s _ (typeE s x :: typeE s y :: typeE s z :: l.map (typeE s)) = _
  unfold typeF
  split <;> rfl
theorem ref26_Type (e : Ex) : ∀ (a b c d : Value) (s : Sc) (v : Value) (w : World), ScAt w a b d s → (∃ p q k, c = .slice p q k) → ExV w v e →
    Calls Tryd.prog 11 #[.agg #[a, b, c, d], v] w fun r w' => r = .returned (.int .i64 (typeE s e)) ∧ Below w.heap.size w w' := by
  induction e using Ex.ind with
  | h op t n m l ih =>
    intro a b c d s v w hs hc hv
    have hT : ∀ x ∈ l, Typed w a b c d s x := fun x hx W u hb hu => ih x hx a b c d s u W (hs.below hb) hc hu
    match l, hT, hv with
    | [], _, hv =>
      rw [typeE_nil]
      by_cases h2 : op = 2
      · exact ref26_Type0Two a b c d s op t n m h2 v w hs hv
      · exact ref26_Type0 a b c d s op t n m h2 v w hs hv
    | [x], hT, hv =>
      rw [typeE_one]
      have hx := hT x (by simp)
      by_cases h2 : op = 2
      · exact ref26_Type12 a b c d s op t n m x v w hs hc hv hx h2
      · by_cases h4 : op = 4
        · exact ref26_Type14 a b c d s op t n m x v w hs hc hv hx h4
        · exact ref26_Type1 a b c d s op t n m x v w hs hc hv hx h2 h4
    | [x, y], hT, hv =>
      rw [typeE_two]
      exact ref26_Type2 a b c d s op t n m x y v w hs hc hv (hT x (by simp)) (hT y (by simp))
    | x :: y :: z :: l, hT, hv =>
      rw [typeE_more]
      exact ref26_TypeM a b c d s op t n m x y z l v w hs hc hv (hT x (by simp)) (hT y (by simp))
end Go.Proofs.YtpecpeedefeokaaDoor

/- Layer 26: the walk of ExprTypes. -/
namespace Go.Proofs.YtpecpeedefeokaaDoor
open Go.RowKit
set_option linter.unusedSimpArgs false
set_option linter.unusedVariables false
set_option maxHeartbeats 4000000 in
theorem exprTypes_walk (pc pv pb pu : Value) (p : Pr) (u : Int) (v : Value) (e : Ex) (w : World) (h : PrAt w pc pv pb pu p) (hv : ExV w v e) (hg : AGoes w) (hT : BTab w) :
    Calls Tryd.prog 3 #[.agg #[pc, pv, pb, pu], .int .i64 u, v] w fun r w' => r = .returned (.bool true) ∧ Below w.heap.size w w' := by
  have HA0 := Lib.hid (fun W (h : Below w.heap.size w W) => law26_awake W (hg.below h) (hT.below h))
  have HF1 := Lib.hid (fun W (hb : Below w.heap.size w W) => law16_Few pc pv pb pu p W (h.below hb))
  have HF2 := Lib.hid (fun W (h : Below w.heap.size w W) => ref26_Few e 300 (by omega) W v (hv.below h))
  have HSm := Lib.hid (fun (h : 0 ≤ roomE e (300 : Nat) 40) => fewE_small h)
  have HSc := Lib.hid (fun (hf : fewP p = true) W (hb : Below w.heap.size w W) => ref17_Scope pc pv pb pu p u W (h.below hb) hf)
  have HTy := Lib.hid (fun (a b c d : Value) (s : Sc) (x : Ex) (hx : SmallE 300 x) (y : Value) W (h : Below w.heap.size w W) (hs : ScAt W a b d s) (hy : ExV W y x) => expr_Type a b c d s x hx y W hs hy (hg.below h) (hT.below h))
  have HRf := Lib.hid (fun (a b c d : Value) (s : Sc) (W : World) (h : Below w.heap.size w W) (hs : ScAt W a b d s) (hc : ∃ p q k, c = .slice p q k) => ref26_Type e a b c d s v W hs hc (hv.below h))
  have HX := Lib.hid hv
  obtain ⟨s, rfl, _, hra⟩ := id hv
  obtain ⟨sa, sc, rfl⟩ := row_get hra
  have HROW := Lib.hid hra
  clear hv hg hT hra h
  obtain ⟨N, hN⟩ : ∃ N, e.l.length = N := ⟨_, rfl⟩
  have HN := Lib.hid hN
  rw [hN] at HROW HX HF2 HRf ⊢
  clear hN
  generalize e.op = p1 at *
  generalize e.t = p2 at *
  generalize e.n = p3 at *
  generalize e.m = p4 at *
  obtain ⟨W0, hW0⟩ : ∃ W0, W0 = (w.alloc (.cells #[pc, pv, pb, pu] 27)).alloc (.cells #[.int .i64 p1, .int .i64 p2, .int .i64 p3, .int .i64 p4, .slice sa N sc] 30) := ⟨_, rfl⟩
  have oP : W0.heap[w.heap.size]? = some (.cells #[pc, pv, pb, pu] 27) := by rw [hW0]; exact (get_past (by simp)).trans (get_last rfl)
  have oE : W0.heap[w.heap.size + 1]? = some (.cells #[.int .i64 p1, .int .i64 p2, .int .i64 p3, .int .i64 p4, .slice sa N sc] 30) := by rw [hW0]; exact get_last (by simp)
  have hbW : Below w.heap.size w W0 := by rw [hW0]; exact by (repeat' (first | (with_reducible exact Below.refl _ _) | (with_reducible assumption) | (with_reducible refine below_drewN ?_ _) | (with_reducible refine Below.alloc ?_ ?_ _) | (with_reducible refine Below.drew ?_) | (with_reducible refine Below.setCell ?_ ?_ _) | go_size))
  have HW0 := Lib.hid hW0
  have HBW := Lib.hid hbW
  have HOP := Lib.hid oP
  have HOE := Lib.hid oE
  have zP := heap_lt oP
  have zE := heap_lt oE
  clear hW0 hbW oP oE
  cases hf1 : fewP p
  · rw [hf1] at HF1
    clear hf1
    have HFx := Lib.hid (HF1.out W0 HBW.out)
    go_enter Tryd.func3, Tryd.ntmps3
    go_wp2_with fail
    rw [← HW0.out]
    refine HFx.out.mono ?_; rintro r w2 ⟨rfl, hb⟩
    have HBB := Lib.hid (HBW.out.trans (hb.mono HBW.out.size))
    clear hb
    go_wp2_with fail
    refine (HA0.out _ HBB.out).mono ?_; rintro r w3 ⟨rfl, hb⟩
    have HBB := Lib.hid (HBB.out.trans (hb.mono HBB.out.size))
    clear hb
    go_wp2_with fail
    go_ret
    exact ⟨rfl, HBB.out⟩
  have HScp := Lib.hid (HSc.out hf1)
  have HFP := Lib.hid (scope_small u hf1)
  rw [hf1] at HF1
  have HFx := Lib.hid (HF1.out W0 HBW.out)
  clear hf1 HSc HF1
  cases hfb : decide (0 ≤ roomE e (300 : Nat) 40)
  · rw [hfb] at HF2
    clear hfb HSm
    go_enter Tryd.func3, Tryd.ntmps3
    go_wp2_with fail
    rw [← HW0.out]
    refine HFx.out.mono ?_; rintro r w2 ⟨rfl, hb⟩
    have HBB := Lib.hid (HBW.out.trans (hb.mono HBW.out.size))
    obtain ⟨b0, b1, b2, b3, b4⟩ := boxed_expr (obj_below HOE.out hb zE)
    clear hb
    go_wp2_with fail
    refine (HF2.out _ HBB.out).mono ?_; rintro r w3 ⟨rfl, hb⟩
    have HBB := Lib.hid (HBB.out.trans (hb.mono HBB.out.size))
    clear hb
    go_wp2_with fail
    refine (HA0.out _ HBB.out).mono ?_; rintro r w4 ⟨rfl, hb⟩
    have HBB := Lib.hid (HBB.out.trans (hb.mono HBB.out.size))
    clear hb
    go_wp2_with fail
    go_ret
    exact ⟨rfl, HBB.out⟩
  have hsm := HSm.out (of_decide_eq_true hfb)
  have HSM := Lib.hid hsm
  rw [hfb] at HF2
  clear hfb HSm hsm
  go_enter Tryd.func3, Tryd.ntmps3
  go_wp2_with fail
  rw [← HW0.out]
  refine HFx.out.mono ?_; rintro r W1 ⟨rfl, hb⟩
  have HB1 := Lib.hid (HBW.out.trans (hb.mono HBW.out.size))
  have oE := obj_below HOE.out hb zE
  have oP := obj_below HOP.out hb zP
  have HOE1 := Lib.hid oE
  have HOP1 := Lib.hid oP
  have zE := heap_lt oE
  have zP := heap_lt oP
  obtain ⟨b0, b1, b2, b3, b4⟩ := boxed_expr oE
  clear hb oE oP HW0 HFx HOE HOP
  go_wp2_with fail
  refine (HF2.out _ HB1.out).mono ?_; rintro r W2 ⟨rfl, hb⟩
  have HB2 := Lib.hid (HB1.out.trans (hb.mono HB1.out.size))
  have oE := obj_below HOE1.out hb zE
  have oP := obj_below HOP1.out hb zP
  have HOE2 := Lib.hid oE
  have zE := heap_lt oE
  obtain ⟨a0, a1, a2, a3⟩ := boxed_four oP
  clear hb oE oP b0 b1 b2 b3 b4 HOE1 HOP1 HF2
  go_wp2_with fail
  refine (HScp.out _ HB2.out).mono ?_; rintro r W3 ⟨a, b, c, d, rfl, hsc, hb⟩
  have HB3 := Lib.hid (HB2.out.trans (hb.mono HB2.out.size))
  have oE := obj_below HOE2.out hb zE
  obtain ⟨v1, n1, k1, rfl⟩ : ∃ v1 n1 k1, a = .slice v1 n1 k1 := by obtain ⟨x, y, z⟩ := row_get hsc.1; exact ⟨_, _, _, z⟩
  obtain ⟨v2, n2, k2, rfl⟩ : ∃ v1 n1 k1, b = .slice v1 n1 k1 := by obtain ⟨x, y, z⟩ := row_get hsc.2.1; exact ⟨_, _, _, z⟩
  obtain ⟨v3, n3, k3, rfl⟩ : ∃ v1 n1 k1, c = .slice v1 n1 k1 := by obtain ⟨x, y, z⟩ := row_get hsc.2.2.1; exact ⟨_, _, _, z⟩
  obtain ⟨v4, n4, k4, rfl⟩ : ∃ v1 n1 k1, d = .slice v1 n1 k1 := by obtain ⟨x, y, z⟩ := row_get hsc.2.2.2; exact ⟨_, _, _, z⟩
  have HSC := Lib.hid (scAt_of hsc)
  have hslc : ∃ p q k, Value.slice v3 n3 k3 = .slice p q k := ⟨_, _, _, rfl⟩
  have zE3 := heap_lt oE
  obtain ⟨b0, b1, b2, b3, b4⟩ := boxed_expr oE
  have HOE3 := Lib.hid oE
  clear hb hsc oE a0 a1 a2 a3 HOE2 HScp
  generalize hTT : typeE (scP p u) e = TT
  go_upto_region 4 with fail
  obtain ⟨W4, hW4⟩ : ∃ W4, W4 = W3.alloc (.cells #[.slice v1 n1 k1, .slice v2 n2 k2, .slice v3 n3 k3, .slice v4 n4 k4] 37) := ⟨_, rfl⟩
  rw [← hW4]
  have hb4 : Below W3.heap.size W3 W4 := by rw [hW4]; exact by (repeat' (first | (with_reducible exact Below.refl _ _) | (with_reducible assumption) | (with_reducible refine below_drewN ?_ _) | (with_reducible refine Below.alloc ?_ ?_ _) | (with_reducible refine Below.drew ?_) | (with_reducible refine Below.setCell ?_ ?_ _) | go_size))
  have oS : W4.heap[W3.heap.size]? = some (.cells #[.slice v1 n1 k1, .slice v2 n2 k2, .slice v3 n3 k3, .slice v4 n4 k4] 37) := by rw [hW4]; exact get_last rfl
  have oE := obj_below HOE3.out hb4 zE3
  clear b0 b1 b2 b3 b4
  have zE := heap_lt oE
  have zS := heap_lt oS
  obtain ⟨s0, s1, s2, s3⟩ := boxed_four oS
  obtain ⟨b0, b1, b2, b3, b4⟩ := boxed_expr oE
  have HB4 := Lib.hid (HB3.out.trans (hb4.mono HB3.out.size))
  have HSC4 := Lib.hid (HSC.out.below hb4)
  have HBe := Lib.hid (fun W (h : Below W4.heap.size W4 W) => HB4.out.trans (h.mono HB4.out.size))
  have H1 := Lib.hid (fun W (h : Below W4.heap.size W4 W) => HTy.out (.slice v1 n1 k1) (.slice v2 n2 k2) (.slice v3 n3 k3) (.slice v4 n4 k4) (scP p u) e HSM.out _ W (HBe.out W h) (HSC4.out.below h) (HX.out.below (HBe.out W h)))
  have H2 := Lib.hid (fun W (h : Below W4.heap.size W4 W) => HRf.out (.slice v1 n1 k1) (.slice v2 n2 k2) (.slice v3 n3 k3) (.slice v4 n4 k4) (scP p u) W (HBe.out W h) (HSC4.out.below h) hslc)
  have H3 := Lib.hid (fun W (h : Below W4.heap.size W4 W) => HA0.out W (HBe.out W h))
  rw [hTT] at H1 H2
  clear oS oE hW4 HOE3 hb4 zE3 HSC HSC4 HTy HRf HSM HX HROW hTT hslc
  have e1 : ((TT : Int) == (TT : Int)) = true := by simp
  refine wp_region_held_drew (S := (fun w' => Below W4.heap.size W4 w')) (by kernel_rfl) ?_ (fun hHeld => ?_)
  · (try dsimp only); first | assumption | exact Below.alloc hHeld hHeld.size _ | exact (Below.refl _ _).drew | exact Below.drew (Below.refl _ _) | exact Below_drewN _ _ _ | exact Below.refl _ _ | (trace_state; fail)
  refine wpAnyH_take (i := 0) (oi := { dst := some 20, op := Op.load 37 (Operand.tmp 7), type := 37, pos := _, after := #[], guard := none }) (v := ?_) rfl (by kernel_rfl) (by kernel_rfl) (by kernel_rfl) (fun _ _ _ h => h) (Or.inl ⟨by rfl, ?_⟩) (by assumption) ?_
  rotate_left
  · intro wt hSw; (try dsimp only at hSw); have s0 := cellB hSw s0 zS; have s1 := cellB hSw s1 zS; have s2 := cellB hSw s2 zS; have s3 := cellB hSw s3 zS; have b0 := cellB hSw b0 zE; have b1 := cellB hSw b1 zE; have b2 := cellB hSw b2 zE; have b3 := cellB hSw b3 zE; have b4 := cellB hSw b4 zE; first | (go_simp; done) | (go_simp; with_reducible rfl) | (trace_state; fail)
  try simp only [Act.put, List.setIfInBounds_toArray, List.set_cons_zero, List.set_cons_succ]
  refine wpAnyH_take (i := 1) (oi := { dst := some 21, op := Op.load 30 (Operand.tmp 5), type := 30, pos := _, after := #[], guard := none }) (v := ?_) rfl (by kernel_rfl) (by kernel_rfl) (by kernel_rfl) (fun _ _ _ h => h) (Or.inl ⟨by rfl, ?_⟩) (by assumption) ?_
  rotate_left
  · intro wt hSw; (try dsimp only at hSw); have s0 := cellB hSw s0 zS; have s1 := cellB hSw s1 zS; have s2 := cellB hSw s2 zS; have s3 := cellB hSw s3 zS; have b0 := cellB hSw b0 zE; have b1 := cellB hSw b1 zE; have b2 := cellB hSw b2 zE; have b3 := cellB hSw b3 zE; have b4 := cellB hSw b4 zE; first | (go_simp; done) | (go_simp; with_reducible rfl) | (trace_state; fail)
  try simp only [Act.put, List.setIfInBounds_toArray, List.set_cons_zero, List.set_cons_succ]
  refine wpAnyH_take (i := 3) (oi := { dst := some 23, op := Op.load 37 (Operand.tmp 7), type := 37, pos := _, after := #[], guard := none }) (v := ?_) rfl (by kernel_rfl) (by kernel_rfl) (by kernel_rfl) (fun _ _ _ h => h) (Or.inl ⟨by rfl, ?_⟩) (by assumption) ?_
  rotate_left
  · intro wt hSw; (try dsimp only at hSw); have s0 := cellB hSw s0 zS; have s1 := cellB hSw s1 zS; have s2 := cellB hSw s2 zS; have s3 := cellB hSw s3 zS; have b0 := cellB hSw b0 zE; have b1 := cellB hSw b1 zE; have b2 := cellB hSw b2 zE; have b3 := cellB hSw b3 zE; have b4 := cellB hSw b4 zE; first | (go_simp; done) | (go_simp; with_reducible rfl) | (trace_state; fail)
  try simp only [Act.put, List.setIfInBounds_toArray, List.set_cons_zero, List.set_cons_succ]
  refine wpAnyH_take (i := 4) (oi := { dst := some 24, op := Op.load 30 (Operand.tmp 5), type := 30, pos := _, after := #[], guard := none }) (v := ?_) rfl (by kernel_rfl) (by kernel_rfl) (by kernel_rfl) (fun _ _ _ h => h) (Or.inl ⟨by rfl, ?_⟩) (by assumption) ?_
  rotate_left
  · intro wt hSw; (try dsimp only at hSw); have s0 := cellB hSw s0 zS; have s1 := cellB hSw s1 zS; have s2 := cellB hSw s2 zS; have s3 := cellB hSw s3 zS; have b0 := cellB hSw b0 zE; have b1 := cellB hSw b1 zE; have b2 := cellB hSw b2 zE; have b3 := cellB hSw b3 zE; have b4 := cellB hSw b4 zE; first | (go_simp; done) | (go_simp; with_reducible rfl) | (trace_state; fail)
  try simp only [Act.put, List.setIfInBounds_toArray, List.set_cons_zero, List.set_cons_succ]
  refine wpAnyH_ready (rs := [2]) (by kernel_rfl) (by simp) ?_
  refine AllReadyH.cons (o := { dst := some 22, op := Op.call { callee := Callee.value (Operand.func 10), args := #[Operand.tmp 20, Operand.tmp 21], argTypes := #[37, 30] }, type := 3, pos := _, after := #[{ on := 0, ground := Ground.data }, { on := 1, ground := Ground.data }], guard := none }) rfl (fun K hK => ?_) AllReadyH.nil
  go_simp
  refine (H1.out _ hHeld).mono ?_; rintro r w2 ⟨rfl, hb⟩; have hHeld := hHeld.trans (hb.mono hHeld.size)
  go_wp2_with fail
  refine hK.out _ _ ?_ (fun hHeld => ?_)
  · (try dsimp only); first | assumption | exact Below.alloc hHeld hHeld.size _ | exact (Below.refl _ _).drew | exact Below.drew (Below.refl _ _) | exact Below_drewN _ _ _ | exact Below.refl _ _ | (trace_state; fail)
  clear hK K
  try simp only [Act.put, List.setIfInBounds_toArray, List.set_cons_zero, List.set_cons_succ]
  refine wpAnyH_ready (rs := [5]) (by kernel_rfl) (by simp) ?_
  refine AllReadyH.cons (o := { dst := some 25, op := Op.call { callee := Callee.value (Operand.func 11), args := #[Operand.tmp 23, Operand.tmp 24], argTypes := #[37, 30] }, type := 3, pos := _, after := #[{ on := 3, ground := Ground.data }, { on := 4, ground := Ground.data }, { on := 2, ground := Ground.chain }], guard := none }) rfl (fun K hK => ?_) AllReadyH.nil
  go_simp
  refine (H2.out _ hHeld).mono ?_; rintro r w2 ⟨rfl, hb⟩; have hHeld := hHeld.trans (hb.mono hHeld.size)
  go_wp2_with fail
  refine hK.out _ _ ?_ (fun hHeld => ?_)
  · (try dsimp only); first | assumption | exact Below.alloc hHeld hHeld.size _ | exact (Below.refl _ _).drew | exact Below.drew (Below.refl _ _) | exact Below_drewN _ _ _ | exact Below.refl _ _ | (trace_state; fail)
  clear hK K
  try simp only [Act.put, List.setIfInBounds_toArray, List.set_cons_zero, List.set_cons_succ]
  refine wpAnyH_take (i := 6) (oi := { dst := some 26, op := Op.binOp BinOp.eql 3 (Operand.tmp 22) (Operand.tmp 25) 3, type := 4, pos := _, after := #[{ on := 2, ground := Ground.data }, { on := 5, ground := Ground.data }], guard := none }) (v := ?_) rfl (by kernel_rfl) (by kernel_rfl) (by kernel_rfl) (fun _ _ _ h => h) (Or.inl ⟨by rfl, ?_⟩) (by assumption) ?_
  rotate_left
  · intro wt hSw; (try dsimp only at hSw); have s0 := cellB hSw s0 zS; have s1 := cellB hSw s1 zS; have s2 := cellB hSw s2 zS; have s3 := cellB hSw s3 zS; have b0 := cellB hSw b0 zE; have b1 := cellB hSw b1 zE; have b2 := cellB hSw b2 zE; have b3 := cellB hSw b3 zE; have b4 := cellB hSw b4 zE; first | (go_simp; done) | (go_simp; with_reducible rfl) | (trace_state; fail)
  try simp only [Act.put, List.setIfInBounds_toArray, List.set_cons_zero, List.set_cons_succ]
  refine wpAnyH_take (i := 7) (oi := { dst := some 27, op := Op.move (Operand.tmp 26), type := 4, pos := _, after := #[{ on := 6, ground := Ground.data }, { on := 5, ground := Ground.chain }], guard := none }) (v := ?_) rfl (by kernel_rfl) (by kernel_rfl) (by kernel_rfl) (fun _ _ _ h => h) (Or.inl ⟨by rfl, ?_⟩) (by assumption) ?_
  rotate_left
  · intro wt hSw; (try dsimp only at hSw); have s0 := cellB hSw s0 zS; have s1 := cellB hSw s1 zS; have s2 := cellB hSw s2 zS; have s3 := cellB hSw s3 zS; have b0 := cellB hSw b0 zE; have b1 := cellB hSw b1 zE; have b2 := cellB hSw b2 zE; have b3 := cellB hSw b3 zE; have b4 := cellB hSw b4 zE; first | (go_simp; done) | (go_simp; with_reducible rfl) | (trace_state; fail)
  try simp only [Act.put, List.setIfInBounds_toArray, List.set_cons_zero, List.set_cons_succ]
  refine wpAnyH_ready (rs := [8]) (by kernel_rfl) (by simp) ?_
  refine AllReadyH.cons (o := { dst := some 28, op := Op.call { callee := Callee.value (Operand.func 8), args := #[], argTypes := #[] }, type := 4, pos := _, after := #[{ on := 7, ground := Ground.chain }, { on := 7, ground := Ground.guard }], guard := some (7, true) }) rfl (fun K hK => ?_) AllReadyH.nil
  go_simp
  refine (H3.out _ hHeld).mono ?_; rintro r w2 ⟨rfl, hb⟩; have hHeld := hHeld.trans (hb.mono hHeld.size)
  go_wp2_with fail
  refine hK.out _ _ ?_ (fun hHeld => ?_)
  · (try dsimp only); first | assumption | exact Below.alloc hHeld hHeld.size _ | exact (Below.refl _ _).drew | exact Below.drew (Below.refl _ _) | exact Below_drewN _ _ _ | exact Below.refl _ _ | (trace_state; fail)
  clear hK K
  try simp only [Act.put, List.setIfInBounds_toArray, List.set_cons_zero, List.set_cons_succ]
  refine wpAnyH_take (i := 9) (oi := { dst := some 29, op := Op.pick (Operand.tmp 27) (Operand.tmp 28) (Operand.const (Value.bool false)), type := 4, pos := _, after := #[{ on := 7, ground := Ground.data }, { on := 8, ground := Ground.data }], guard := none }) (v := ?_) rfl (by kernel_rfl) (by kernel_rfl) (by kernel_rfl) (fun _ _ _ h => h) (Or.inl ⟨by rfl, ?_⟩) (by assumption) ?_
  rotate_left
  · intro wt hSw; (try dsimp only at hSw); have s0 := cellB hSw s0 zS; have s1 := cellB hSw s1 zS; have s2 := cellB hSw s2 zS; have s3 := cellB hSw s3 zS; have b0 := cellB hSw b0 zE; have b1 := cellB hSw b1 zE; have b2 := cellB hSw b2 zE; have b3 := cellB hSw b3 zE; have b4 := cellB hSw b4 zE; first | (go_simp; done) | (go_simp; with_reducible rfl) | (trace_state; fail)
  try simp only [Act.put, List.setIfInBounds_toArray, List.set_cons_zero, List.set_cons_succ]
  refine wpAnyH_take (i := 10) (oi := { dst := some 6, op := Op.assign (Operand.tmp 29), type := 4, pos := _, after := #[{ on := 9, ground := Ground.data }, { on := 8, ground := Ground.chain }, { on := 0, ground := Ground.phase }, { on := 1, ground := Ground.phase }, { on := 2, ground := Ground.phase }, { on := 3, ground := Ground.phase }, { on := 4, ground := Ground.phase }, { on := 5, ground := Ground.phase }, { on := 6, ground := Ground.phase }, { on := 7, ground := Ground.phase }, { on := 8, ground := Ground.phase }, { on := 9, ground := Ground.phase }], guard := none }) (v := ?_) rfl (by kernel_rfl) (by kernel_rfl) (by kernel_rfl) (fun _ _ _ h => h) (Or.inl ⟨by rfl, ?_⟩) (by assumption) ?_
  rotate_left
  · intro wt hSw; (try dsimp only at hSw); have s0 := cellB hSw s0 zS; have s1 := cellB hSw s1 zS; have s2 := cellB hSw s2 zS; have s3 := cellB hSw s3 zS; have b0 := cellB hSw b0 zE; have b1 := cellB hSw b1 zE; have b2 := cellB hSw b2 zE; have b3 := cellB hSw b3 zE; have b4 := cellB hSw b4 zE; first | (go_simp; done) | (go_simp; with_reducible rfl) | (trace_state; fail)
  try simp only [Act.put, List.setIfInBounds_toArray, List.set_cons_zero, List.set_cons_succ]
  refine wpAnyH_done (by kernel_rfl) ?_ _
  have HHw := Lib.hid (HBe.out _ hHeld)
  clear hHeld
  go_wp2_with fail
  go_ret
  exact ⟨rfl, HHw.out⟩
end Go.Proofs.YtpecpeedefeokaaDoor
