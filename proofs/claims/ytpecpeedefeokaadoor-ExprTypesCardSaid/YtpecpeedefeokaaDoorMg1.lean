/- Merged texts: ExR1. -/
import Derived.Test.YtpecpeedefeokaaDoorMg0
/- Layer 26: the document's Type, of an expression with one within it (op neither 2 nor 4). -/
namespace Go.Proofs.YtpecpeedefeokaaDoor
open Go.RowKit
set_option linter.unusedSimpArgs false
set_option linter.unusedVariables false
set_option maxRecDepth 100000 in
set_option maxHeartbeats 8000000 in
theorem ref26_Type1 (a b c d : Value) (s : Sc) (op t n m : Int) (x : Ex) (v : Value) (w : World) (hs : ScAt w a b d s) (hc0 : ∃ p q k, c = .slice p q k) (hv : ExV w v ⟨op, t, n, m, [x]⟩) (hx : Typed w a b c d s x) (o2 : ¬ op = 2) (o4 : ¬ op = 4) :
    Calls Tryd.prog 11 #[.agg #[a, b, c, d], v] w fun r w' => r = .returned (.int .i64 (if typeE s x = 0 then 0 else singleT s ⟨op, t, n, m, [x]⟩ (typeE s x))) ∧ Below w.heap.size w w' := by
  obtain ⟨sl, rfl, _, hrl⟩ := hv
  obtain ⟨sa, ca, rfl⟩ := row_get hs.vs
  obtain ⟨sb, cb, rfl⟩ := row_get hs.bs
  obtain ⟨sd, cd, rfl⟩ := row_get hs.ss
  obtain ⟨p, q, k, rfl⟩ := hc0
  have hlen := hrl.len
  obtain ⟨al, cl, rfl⟩ := row_get hrl
  have hcap := cap_row hrl (k := 0) (by simp)
  obtain ⟨b, off, s1, sn1, sc1, rfl, hbw, _, _, d0, d1, d2, d3, d4, hxv⟩ := ex_at hrl (k := 0) (x := x) rfl
  simp only [Nat.zero_mul, Nat.one_mul, Nat.add_zero] at d0 d1 d2 d3 d4
  simp only [List.length_cons, List.length_nil, Nat.zero_add] at hlen hcap ⊢
  have q0 : ((0 : Int) < (1 : Int)) = True := by decide
  have r0 : (0 < 1) = True := by decide
  obtain ⟨W0, hW0⟩ : ∃ W0, W0 = (w.alloc (.cells #[.slice sa s.vars.length ca, .slice sb s.blocks.length cb, .slice p q k, .slice sd s.slots.length cd] 37)).alloc (.cells #[.int .i64 op, .int .i64 t, .int .i64 n, .int .i64 m, .slice (some ⟨b, off, none⟩) 1 cl] 30) := ⟨_, rfl⟩
  have ho0 : W0.heap[w.heap.size]? = some (.cells #[.slice sa s.vars.length ca, .slice sb s.blocks.length cb, .slice p q k, .slice sd s.slots.length cd] 37) := by rw [hW0, get_past (by simp)]; exact get_last rfl
  have ho1 : W0.heap[w.heap.size + 1]? = some (.cells #[.int .i64 op, .int .i64 t, .int .i64 n, .int .i64 m, .slice (some ⟨b, off, none⟩) 1 cl] 30) := by rw [hW0]; exact get_last (by simp)
  have hbW : Below w.heap.size w W0 := by rw [hW0]; exact by (repeat' (first | (with_reducible exact Below.refl _ _) | (with_reducible assumption) | (with_reducible refine below_drewN ?_ _) | (with_reducible refine Below.alloc ?_ ?_ _) | (with_reducible refine Below.drew ?_) | (with_reducible refine Below.setCell ?_ ?_ _) | go_size))
  have HW0 := Lib.hid hW0
  have HB0 := Lib.hid hbW
  have z0 := heap_lt ho0
  have z1 := heap_lt ho1
  have zb : b < W0.heap.size := Nat.lt_of_lt_of_le hbw hbW.size
  have s0 : W0.cell? ⟨w.heap.size, 0, none⟩ = some (.slice sa s.vars.length ca) := obj_cell ho0 (i := 0) rfl
  have s1 : W0.cell? ⟨w.heap.size, 1, none⟩ = some (.slice sb s.blocks.length cb) := obj_cell ho0 (i := 1) rfl
  have s2 : W0.cell? ⟨w.heap.size, 2, none⟩ = some (.slice p q k) := obj_cell ho0 (i := 2) rfl
  have s3 : W0.cell? ⟨w.heap.size, 3, none⟩ = some (.slice sd s.slots.length cd) := obj_cell ho0 (i := 3) rfl
  have g4 : W0.cell? ⟨w.heap.size + 1, 4, none⟩ = some (.slice (some ⟨b, off, none⟩) 1 cl) := obj_cell ho1 (i := 4) rfl
  have g0 : W0.cell? ⟨w.heap.size + 1, 0, none⟩ = some (.int .i64 op) := obj_cell ho1 (i := 0) rfl
  have g1 : W0.cell? ⟨w.heap.size + 1, 1, none⟩ = some (.int .i64 t) := obj_cell ho1 (i := 1) rfl
  have g2 : W0.cell? ⟨w.heap.size + 1, 2, none⟩ = some (.int .i64 n) := obj_cell ho1 (i := 2) rfl
  have g3 : W0.cell? ⟨w.heap.size + 1, 3, none⟩ = some (.int .i64 m) := obj_cell ho1 (i := 3) rfl
  have d0 := (hbW.cell (p := ⟨b, off, none⟩) hbw).trans d0
  have d1 := (hbW.cell (p := ⟨b, off + 1, none⟩) hbw).trans d1
  have d2 := (hbW.cell (p := ⟨b, off + 2, none⟩) hbw).trans d2
  have d3 := (hbW.cell (p := ⟨b, off + 3, none⟩) hbw).trans d3
  have d4 := (hbW.cell (p := ⟨b, off + 4, none⟩) hbw).trans d4
  have HXc := Lib.hid (fun W (_ : True) (h : Below W0.heap.size W0 W) => hx W _ (hbW.trans (h.mono hbW.size)) (hxv.below (hbW.trans (h.mono hbW.size))))
  generalize typeE s x = T at *
  clear hW0 hbW ho0 ho1 hx hxv hs hrl
  generalize hZ : (if T = 0 then 0 else singleT s ⟨op, t, n, m, [x]⟩ T) = Z
  have HZ := Lib.hid hZ
  clear hZ
  have hK0 := ref01_Right 0
  rw [show kRight 0 = false from rfl] at hK0
  by_cases hT : T = 0
  · subst hT
    have hres := Lib.hid (show Z = 0 by rw [← HZ.out]; unfold singleT; simp [show True from trivial])
    go_enter Tryd.func11, Tryd.ntmps11
    go_upto_region 5 with fail
    rw [← HW0.out]
    refine wp_region_held_drew (S := (fun w' => Below W0.heap.size W0 w')) (by kernel_rfl) ?_ (fun hHeld => ?_)
    · (try dsimp only); first | assumption | exact Below.alloc hHeld hHeld.size _ | exact (Below.refl _ _).drew | exact Below.drew (Below.refl _ _) | exact Below_drewN _ _ _ | exact Below.refl _ _ | (trace_state; fail)
    refine wpAnyH_take (i := 0) (oi := { dst := some 17, op := Op.load 37 (Operand.tmp 2), type := 37, pos := _, after := #[], guard := none }) (v := ?_) rfl (by kernel_rfl) (by kernel_rfl) (by kernel_rfl) (fun _ _ _ h => h) (Or.inl ⟨by rfl, ?_⟩) (by assumption) ?_
    rotate_left
    · intro wt hSw; (try dsimp only at hSw); have s0 := cellB hSw s0 z0; have s1 := cellB hSw s1 z0; have s2 := cellB hSw s2 z0; have s3 := cellB hSw s3 z0; have g4 := cellB hSw g4 z1; have d0 := cellB hSw d0 zb; have d1 := cellB hSw d1 zb; have d2 := cellB hSw d2 zb; have d3 := cellB hSw d3 zb; have d4 := cellB hSw d4 zb; first | (go_simp; done) | (go_simp; with_reducible rfl) | (trace_state; fail)
    try simp only [Act.put, List.setIfInBounds_toArray, List.set_cons_zero, List.set_cons_succ]
    refine wpAnyH_take (i := 1) (oi := { dst := some 18, op := Op.fieldAddr 30 (Operand.tmp 3) 4, type := 0, pos := _, after := #[], guard := none }) (v := ?_) rfl (by kernel_rfl) (by kernel_rfl) (by kernel_rfl) (fun _ _ _ h => h) (Or.inl ⟨by rfl, ?_⟩) (by assumption) ?_
    rotate_left
    · intro wt hSw; (try dsimp only at hSw); have s0 := cellB hSw s0 z0; have s1 := cellB hSw s1 z0; have s2 := cellB hSw s2 z0; have s3 := cellB hSw s3 z0; have g4 := cellB hSw g4 z1; have d0 := cellB hSw d0 zb; have d1 := cellB hSw d1 zb; have d2 := cellB hSw d2 zb; have d3 := cellB hSw d3 zb; have d4 := cellB hSw d4 zb; first | (go_simp; done) | (go_simp; with_reducible rfl) | (trace_state; fail)
    try simp only [Act.put, List.setIfInBounds_toArray, List.set_cons_zero, List.set_cons_succ]
    refine wpAnyH_take (i := 2) (oi := { dst := some 19, op := Op.load 28 (Operand.tmp 18), type := 28, pos := _, after := #[{ on := 1, ground := Ground.data }], guard := none }) (v := ?_) rfl (by kernel_rfl) (by kernel_rfl) (by kernel_rfl) (fun _ _ _ h => h) (Or.inl ⟨by rfl, ?_⟩) (by assumption) ?_
    rotate_left
    · intro wt hSw; (try dsimp only at hSw); have s0 := cellB hSw s0 z0; have s1 := cellB hSw s1 z0; have s2 := cellB hSw s2 z0; have s3 := cellB hSw s3 z0; have g4 := cellB hSw g4 z1; have d0 := cellB hSw d0 zb; have d1 := cellB hSw d1 zb; have d2 := cellB hSw d2 zb; have d3 := cellB hSw d3 zb; have d4 := cellB hSw d4 zb; first | (go_simp; done) | (go_simp; with_reducible rfl) | (trace_state; fail)
    try simp only [Act.put, List.setIfInBounds_toArray, List.set_cons_zero, List.set_cons_succ]
    refine wpAnyH_take (i := 3) (oi := { dst := some 20, op := Op.indexAddr 28 (Operand.tmp 19) (Operand.const (Value.int IntKind.i64 0)), type := 0, pos := _, after := #[{ on := 2, ground := Ground.data }], guard := none }) (v := ?_) rfl (by kernel_rfl) (by kernel_rfl) (by kernel_rfl) (fun _ _ _ h => h) (Or.inl ⟨by rfl, ?_⟩) (by assumption) ?_
    rotate_left
    · intro wt hSw; (try dsimp only at hSw); have s0 := cellB hSw s0 z0; have s1 := cellB hSw s1 z0; have s2 := cellB hSw s2 z0; have s3 := cellB hSw s3 z0; have g4 := cellB hSw g4 z1; have d0 := cellB hSw d0 zb; have d1 := cellB hSw d1 zb; have d2 := cellB hSw d2 zb; have d3 := cellB hSw d3 zb; have d4 := cellB hSw d4 zb; first | (go_simp; done) | (go_simp; with_reducible rfl) | (trace_state; fail)
    try simp only [Act.put, List.setIfInBounds_toArray, List.set_cons_zero, List.set_cons_succ]
    refine wpAnyH_take (i := 4) (oi := { dst := some 21, op := Op.load 30 (Operand.tmp 20), type := 30, pos := _, after := #[{ on := 3, ground := Ground.data }], guard := none }) (v := ?_) rfl (by kernel_rfl) (by kernel_rfl) (by kernel_rfl) (fun _ _ _ h => h) (Or.inl ⟨by rfl, ?_⟩) (by assumption) ?_
    rotate_left
    · intro wt hSw; (try dsimp only at hSw); have s0 := cellB hSw s0 z0; have s1 := cellB hSw s1 z0; have s2 := cellB hSw s2 z0; have s3 := cellB hSw s3 z0; have g4 := cellB hSw g4 z1; have d0 := cellB hSw d0 zb; have d1 := cellB hSw d1 zb; have d2 := cellB hSw d2 zb; have d3 := cellB hSw d3 zb; have d4 := cellB hSw d4 zb; first | (go_simp; done) | (go_simp; with_reducible rfl) | (trace_state; fail)
    try simp only [Act.put, List.setIfInBounds_toArray, List.set_cons_zero, List.set_cons_succ]
    refine wpAnyH_ready (rs := [5]) (by kernel_rfl) (by simp) ?_
    refine AllReadyH.cons (o := { dst := some 22, op := Op.call { callee := Callee.value (Operand.func 11), args := #[Operand.tmp 17, Operand.tmp 21], argTypes := #[37, 30] }, type := 3, pos := _, after := #[{ on := 0, ground := Ground.data }, { on := 4, ground := Ground.data }], guard := none }) rfl (fun K hK => ?_) AllReadyH.nil
    go_simp
    refine (HXc.out _ trivial hHeld).mono ?_; rintro r w2 ⟨rfl, hb⟩; have hHeld := hHeld.trans (hb.mono hHeld.size)
    go_wp2_with fail
    refine hK.out _ _ ?_ (fun hHeld => ?_)
    · (try dsimp only); first | assumption | exact Below.alloc hHeld hHeld.size _ | exact (Below.refl _ _).drew | exact Below.drew (Below.refl _ _) | exact Below_drewN _ _ _ | exact Below.refl _ _ | (trace_state; fail)
    clear hK K
    try simp only [Act.put, List.setIfInBounds_toArray, List.set_cons_zero, List.set_cons_succ]
    refine wpAnyH_take (i := 6) (oi := { dst := some 6, op := Op.assign (Operand.tmp 22), type := 3, pos := _, after := #[{ on := 5, ground := Ground.data }, { on := 5, ground := Ground.chain }, { on := 0, ground := Ground.phase }, { on := 1, ground := Ground.phase }, { on := 2, ground := Ground.phase }, { on := 3, ground := Ground.phase }, { on := 4, ground := Ground.phase }, { on := 5, ground := Ground.phase }], guard := none }) (v := ?_) rfl (by kernel_rfl) (by kernel_rfl) (by kernel_rfl) (fun _ _ _ h => h) (Or.inl ⟨by rfl, ?_⟩) (by assumption) ?_
    rotate_left
    · intro wt hSw; (try dsimp only at hSw); have s0 := cellB hSw s0 z0; have s1 := cellB hSw s1 z0; have s2 := cellB hSw s2 z0; have s3 := cellB hSw s3 z0; have g4 := cellB hSw g4 z1; have d0 := cellB hSw d0 zb; have d1 := cellB hSw d1 zb; have d2 := cellB hSw d2 zb; have d3 := cellB hSw d3 zb; have d4 := cellB hSw d4 zb; first | (go_simp; done) | (go_simp; with_reducible rfl) | (trace_state; fail)
    try simp only [Act.put, List.setIfInBounds_toArray, List.set_cons_zero, List.set_cons_succ]
    refine wpAnyH_done (by kernel_rfl) ?_ _
    have HHw := Lib.hid (HB0.out.trans (hHeld.mono HB0.out.size))
    have g0 := cellB hHeld g0 z1
    have g1 := cellB hHeld g1 z1
    have g2 := cellB hHeld g2 z1
    have g3 := cellB hHeld g3 z1
    have g4 := cellB hHeld g4 z1
    clear hHeld s0 s1 s2 s3 d0 d1 d2 d3 d4
    go_wp2_with fail
    go_ret
    exact ⟨by rw [hres.out]; rfl, HHw.out⟩
  have eT : (T == 0) = false := by simpa using hT
  by_cases h8 : op = 8
  · subst h8
    have hKt := ref01_Right t
    by_cases hn : n = 0
    case neg =>
      have en : (n == 0) = false := by simpa using hn
      have hres := Lib.hid (show Z = 0 by rw [← HZ.out]; unfold singleT; simp [hT, hn])
      clear hT hn hKt
      go_enter Tryd.func11, Tryd.ntmps11
      go_upto_region 5 with fail
      rw [← HW0.out]
      refine wp_region_held_drew (S := (fun w' => Below W0.heap.size W0 w')) (by kernel_rfl) ?_ (fun hHeld => ?_)
      · (try dsimp only); first | assumption | exact Below.alloc hHeld hHeld.size _ | exact (Below.refl _ _).drew | exact Below.drew (Below.refl _ _) | exact Below_drewN _ _ _ | exact Below.refl _ _ | (trace_state; fail)
      refine wpAnyH_take (i := 0) (oi := { dst := some 17, op := Op.load 37 (Operand.tmp 2), type := 37, pos := _, after := #[], guard := none }) (v := ?_) rfl (by kernel_rfl) (by kernel_rfl) (by kernel_rfl) (fun _ _ _ h => h) (Or.inl ⟨by rfl, ?_⟩) (by assumption) ?_
      rotate_left
      · intro wt hSw; (try dsimp only at hSw); have s0 := cellB hSw s0 z0; have s1 := cellB hSw s1 z0; have s2 := cellB hSw s2 z0; have s3 := cellB hSw s3 z0; have g4 := cellB hSw g4 z1; have d0 := cellB hSw d0 zb; have d1 := cellB hSw d1 zb; have d2 := cellB hSw d2 zb; have d3 := cellB hSw d3 zb; have d4 := cellB hSw d4 zb; first | (go_simp; done) | (go_simp; with_reducible rfl) | (trace_state; fail)
      try simp only [Act.put, List.setIfInBounds_toArray, List.set_cons_zero, List.set_cons_succ]
      refine wpAnyH_take (i := 1) (oi := { dst := some 18, op := Op.fieldAddr 30 (Operand.tmp 3) 4, type := 0, pos := _, after := #[], guard := none }) (v := ?_) rfl (by kernel_rfl) (by kernel_rfl) (by kernel_rfl) (fun _ _ _ h => h) (Or.inl ⟨by rfl, ?_⟩) (by assumption) ?_
      rotate_left
      · intro wt hSw; (try dsimp only at hSw); have s0 := cellB hSw s0 z0; have s1 := cellB hSw s1 z0; have s2 := cellB hSw s2 z0; have s3 := cellB hSw s3 z0; have g4 := cellB hSw g4 z1; have d0 := cellB hSw d0 zb; have d1 := cellB hSw d1 zb; have d2 := cellB hSw d2 zb; have d3 := cellB hSw d3 zb; have d4 := cellB hSw d4 zb; first | (go_simp; done) | (go_simp; with_reducible rfl) | (trace_state; fail)
      try simp only [Act.put, List.setIfInBounds_toArray, List.set_cons_zero, List.set_cons_succ]
      refine wpAnyH_take (i := 2) (oi := { dst := some 19, op := Op.load 28 (Operand.tmp 18), type := 28, pos := _, after := #[{ on := 1, ground := Ground.data }], guard := none }) (v := ?_) rfl (by kernel_rfl) (by kernel_rfl) (by kernel_rfl) (fun _ _ _ h => h) (Or.inl ⟨by rfl, ?_⟩) (by assumption) ?_
      rotate_left
      · intro wt hSw; (try dsimp only at hSw); have s0 := cellB hSw s0 z0; have s1 := cellB hSw s1 z0; have s2 := cellB hSw s2 z0; have s3 := cellB hSw s3 z0; have g4 := cellB hSw g4 z1; have d0 := cellB hSw d0 zb; have d1 := cellB hSw d1 zb; have d2 := cellB hSw d2 zb; have d3 := cellB hSw d3 zb; have d4 := cellB hSw d4 zb; first | (go_simp; done) | (go_simp; with_reducible rfl) | (trace_state; fail)
      try simp only [Act.put, List.setIfInBounds_toArray, List.set_cons_zero, List.set_cons_succ]
      refine wpAnyH_take (i := 3) (oi := { dst := some 20, op := Op.indexAddr 28 (Operand.tmp 19) (Operand.const (Value.int IntKind.i64 0)), type := 0, pos := _, after := #[{ on := 2, ground := Ground.data }], guard := none }) (v := ?_) rfl (by kernel_rfl) (by kernel_rfl) (by kernel_rfl) (fun _ _ _ h => h) (Or.inl ⟨by rfl, ?_⟩) (by assumption) ?_
      rotate_left
      · intro wt hSw; (try dsimp only at hSw); have s0 := cellB hSw s0 z0; have s1 := cellB hSw s1 z0; have s2 := cellB hSw s2 z0; have s3 := cellB hSw s3 z0; have g4 := cellB hSw g4 z1; have d0 := cellB hSw d0 zb; have d1 := cellB hSw d1 zb; have d2 := cellB hSw d2 zb; have d3 := cellB hSw d3 zb; have d4 := cellB hSw d4 zb; first | (go_simp; done) | (go_simp; with_reducible rfl) | (trace_state; fail)
      try simp only [Act.put, List.setIfInBounds_toArray, List.set_cons_zero, List.set_cons_succ]
      refine wpAnyH_take (i := 4) (oi := { dst := some 21, op := Op.load 30 (Operand.tmp 20), type := 30, pos := _, after := #[{ on := 3, ground := Ground.data }], guard := none }) (v := ?_) rfl (by kernel_rfl) (by kernel_rfl) (by kernel_rfl) (fun _ _ _ h => h) (Or.inl ⟨by rfl, ?_⟩) (by assumption) ?_
      rotate_left
      · intro wt hSw; (try dsimp only at hSw); have s0 := cellB hSw s0 z0; have s1 := cellB hSw s1 z0; have s2 := cellB hSw s2 z0; have s3 := cellB hSw s3 z0; have g4 := cellB hSw g4 z1; have d0 := cellB hSw d0 zb; have d1 := cellB hSw d1 zb; have d2 := cellB hSw d2 zb; have d3 := cellB hSw d3 zb; have d4 := cellB hSw d4 zb; first | (go_simp; done) | (go_simp; with_reducible rfl) | (trace_state; fail)
      try simp only [Act.put, List.setIfInBounds_toArray, List.set_cons_zero, List.set_cons_succ]
      refine wpAnyH_ready (rs := [5]) (by kernel_rfl) (by simp) ?_
      refine AllReadyH.cons (o := { dst := some 22, op := Op.call { callee := Callee.value (Operand.func 11), args := #[Operand.tmp 17, Operand.tmp 21], argTypes := #[37, 30] }, type := 3, pos := _, after := #[{ on := 0, ground := Ground.data }, { on := 4, ground := Ground.data }], guard := none }) rfl (fun K hK => ?_) AllReadyH.nil
      go_simp
      refine (HXc.out _ trivial hHeld).mono ?_; rintro r w2 ⟨rfl, hb⟩; have hHeld := hHeld.trans (hb.mono hHeld.size)
      go_wp2_with fail
      refine hK.out _ _ ?_ (fun hHeld => ?_)
      · (try dsimp only); first | assumption | exact Below.alloc hHeld hHeld.size _ | exact (Below.refl _ _).drew | exact Below.drew (Below.refl _ _) | exact Below_drewN _ _ _ | exact Below.refl _ _ | (trace_state; fail)
      clear hK K
      try simp only [Act.put, List.setIfInBounds_toArray, List.set_cons_zero, List.set_cons_succ]
      refine wpAnyH_take (i := 6) (oi := { dst := some 6, op := Op.assign (Operand.tmp 22), type := 3, pos := _, after := #[{ on := 5, ground := Ground.data }, { on := 5, ground := Ground.chain }, { on := 0, ground := Ground.phase }, { on := 1, ground := Ground.phase }, { on := 2, ground := Ground.phase }, { on := 3, ground := Ground.phase }, { on := 4, ground := Ground.phase }, { on := 5, ground := Ground.phase }], guard := none }) (v := ?_) rfl (by kernel_rfl) (by kernel_rfl) (by kernel_rfl) (fun _ _ _ h => h) (Or.inl ⟨by rfl, ?_⟩) (by assumption) ?_
      rotate_left
      · intro wt hSw; (try dsimp only at hSw); have s0 := cellB hSw s0 z0; have s1 := cellB hSw s1 z0; have s2 := cellB hSw s2 z0; have s3 := cellB hSw s3 z0; have g4 := cellB hSw g4 z1; have d0 := cellB hSw d0 zb; have d1 := cellB hSw d1 zb; have d2 := cellB hSw d2 zb; have d3 := cellB hSw d3 zb; have d4 := cellB hSw d4 zb; first | (go_simp; done) | (go_simp; with_reducible rfl) | (trace_state; fail)
      try simp only [Act.put, List.setIfInBounds_toArray, List.set_cons_zero, List.set_cons_succ]
      refine wpAnyH_done (by kernel_rfl) ?_ _
      have HHw := Lib.hid (HB0.out.trans (hHeld.mono HB0.out.size))
      have g0 := cellB hHeld g0 z1
      have g1 := cellB hHeld g1 z1
      have g2 := cellB hHeld g2 z1
      have g3 := cellB hHeld g3 z1
      have g4 := cellB hHeld g4 z1
      clear hHeld s0 s1 s2 s3 d0 d1 d2 d3 d4
      go_wp2_with fail
      refine (hK0 _).mono ?_; rintro r w2 ⟨rfl, rfl⟩
      go_wp2_with fail
      go_ret
      exact ⟨by rw [hres.out]; rfl, HHw.out⟩
    subst hn
    by_cases hm : m = 0
    case neg =>
      have em : (m == 0) = false := by simpa using hm
      have hres := Lib.hid (show Z = 0 by rw [← HZ.out]; unfold singleT; simp [hT, hm])
      clear hT hm hKt
      go_enter Tryd.func11, Tryd.ntmps11
      go_upto_region 5 with fail
      rw [← HW0.out]
      refine wp_region_held_drew (S := (fun w' => Below W0.heap.size W0 w')) (by kernel_rfl) ?_ (fun hHeld => ?_)
      · (try dsimp only); first | assumption | exact Below.alloc hHeld hHeld.size _ | exact (Below.refl _ _).drew | exact Below.drew (Below.refl _ _) | exact Below_drewN _ _ _ | exact Below.refl _ _ | (trace_state; fail)
      refine wpAnyH_take (i := 0) (oi := { dst := some 17, op := Op.load 37 (Operand.tmp 2), type := 37, pos := _, after := #[], guard := none }) (v := ?_) rfl (by kernel_rfl) (by kernel_rfl) (by kernel_rfl) (fun _ _ _ h => h) (Or.inl ⟨by rfl, ?_⟩) (by assumption) ?_
      rotate_left
      · intro wt hSw; (try dsimp only at hSw); have s0 := cellB hSw s0 z0; have s1 := cellB hSw s1 z0; have s2 := cellB hSw s2 z0; have s3 := cellB hSw s3 z0; have g4 := cellB hSw g4 z1; have d0 := cellB hSw d0 zb; have d1 := cellB hSw d1 zb; have d2 := cellB hSw d2 zb; have d3 := cellB hSw d3 zb; have d4 := cellB hSw d4 zb; first | (go_simp; done) | (go_simp; with_reducible rfl) | (trace_state; fail)
      try simp only [Act.put, List.setIfInBounds_toArray, List.set_cons_zero, List.set_cons_succ]
      refine wpAnyH_take (i := 1) (oi := { dst := some 18, op := Op.fieldAddr 30 (Operand.tmp 3) 4, type := 0, pos := _, after := #[], guard := none }) (v := ?_) rfl (by kernel_rfl) (by kernel_rfl) (by kernel_rfl) (fun _ _ _ h => h) (Or.inl ⟨by rfl, ?_⟩) (by assumption) ?_
      rotate_left
      · intro wt hSw; (try dsimp only at hSw); have s0 := cellB hSw s0 z0; have s1 := cellB hSw s1 z0; have s2 := cellB hSw s2 z0; have s3 := cellB hSw s3 z0; have g4 := cellB hSw g4 z1; have d0 := cellB hSw d0 zb; have d1 := cellB hSw d1 zb; have d2 := cellB hSw d2 zb; have d3 := cellB hSw d3 zb; have d4 := cellB hSw d4 zb; first | (go_simp; done) | (go_simp; with_reducible rfl) | (trace_state; fail)
      try simp only [Act.put, List.setIfInBounds_toArray, List.set_cons_zero, List.set_cons_succ]
      refine wpAnyH_take (i := 2) (oi := { dst := some 19, op := Op.load 28 (Operand.tmp 18), type := 28, pos := _, after := #[{ on := 1, ground := Ground.data }], guard := none }) (v := ?_) rfl (by kernel_rfl) (by kernel_rfl) (by kernel_rfl) (fun _ _ _ h => h) (Or.inl ⟨by rfl, ?_⟩) (by assumption) ?_
      rotate_left
      · intro wt hSw; (try dsimp only at hSw); have s0 := cellB hSw s0 z0; have s1 := cellB hSw s1 z0; have s2 := cellB hSw s2 z0; have s3 := cellB hSw s3 z0; have g4 := cellB hSw g4 z1; have d0 := cellB hSw d0 zb; have d1 := cellB hSw d1 zb; have d2 := cellB hSw d2 zb; have d3 := cellB hSw d3 zb; have d4 := cellB hSw d4 zb; first | (go_simp; done) | (go_simp; with_reducible rfl) | (trace_state; fail)
      try simp only [Act.put, List.setIfInBounds_toArray, List.set_cons_zero, List.set_cons_succ]
      refine wpAnyH_take (i := 3) (oi := { dst := some 20, op := Op.indexAddr 28 (Operand.tmp 19) (Operand.const (Value.int IntKind.i64 0)), type := 0, pos := _, after := #[{ on := 2, ground := Ground.data }], guard := none }) (v := ?_) rfl (by kernel_rfl) (by kernel_rfl) (by kernel_rfl) (fun _ _ _ h => h) (Or.inl ⟨by rfl, ?_⟩) (by assumption) ?_
      rotate_left
      · intro wt hSw; (try dsimp only at hSw); have s0 := cellB hSw s0 z0; have s1 := cellB hSw s1 z0; have s2 := cellB hSw s2 z0; have s3 := cellB hSw s3 z0; have g4 := cellB hSw g4 z1; have d0 := cellB hSw d0 zb; have d1 := cellB hSw d1 zb; have d2 := cellB hSw d2 zb; have d3 := cellB hSw d3 zb; have d4 := cellB hSw d4 zb; first | (go_simp; done) | (go_simp; with_reducible rfl) | (trace_state; fail)
      try simp only [Act.put, List.setIfInBounds_toArray, List.set_cons_zero, List.set_cons_succ]
      refine wpAnyH_take (i := 4) (oi := { dst := some 21, op := Op.load 30 (Operand.tmp 20), type := 30, pos := _, after := #[{ on := 3, ground := Ground.data }], guard := none }) (v := ?_) rfl (by kernel_rfl) (by kernel_rfl) (by kernel_rfl) (fun _ _ _ h => h) (Or.inl ⟨by rfl, ?_⟩) (by assumption) ?_
      rotate_left
      · intro wt hSw; (try dsimp only at hSw); have s0 := cellB hSw s0 z0; have s1 := cellB hSw s1 z0; have s2 := cellB hSw s2 z0; have s3 := cellB hSw s3 z0; have g4 := cellB hSw g4 z1; have d0 := cellB hSw d0 zb; have d1 := cellB hSw d1 zb; have d2 := cellB hSw d2 zb; have d3 := cellB hSw d3 zb; have d4 := cellB hSw d4 zb; first | (go_simp; done) | (go_simp; with_reducible rfl) | (trace_state; fail)
      try simp only [Act.put, List.setIfInBounds_toArray, List.set_cons_zero, List.set_cons_succ]
      refine wpAnyH_ready (rs := [5]) (by kernel_rfl) (by simp) ?_
      refine AllReadyH.cons (o := { dst := some 22, op := Op.call { callee := Callee.value (Operand.func 11), args := #[Operand.tmp 17, Operand.tmp 21], argTypes := #[37, 30] }, type := 3, pos := _, after := #[{ on := 0, ground := Ground.data }, { on := 4, ground := Ground.data }], guard := none }) rfl (fun K hK => ?_) AllReadyH.nil
      go_simp
      refine (HXc.out _ trivial hHeld).mono ?_; rintro r w2 ⟨rfl, hb⟩; have hHeld := hHeld.trans (hb.mono hHeld.size)
      go_wp2_with fail
      refine hK.out _ _ ?_ (fun hHeld => ?_)
      · (try dsimp only); first | assumption | exact Below.alloc hHeld hHeld.size _ | exact (Below.refl _ _).drew | exact Below.drew (Below.refl _ _) | exact Below_drewN _ _ _ | exact Below.refl _ _ | (trace_state; fail)
      clear hK K
      try simp only [Act.put, List.setIfInBounds_toArray, List.set_cons_zero, List.set_cons_succ]
      refine wpAnyH_take (i := 6) (oi := { dst := some 6, op := Op.assign (Operand.tmp 22), type := 3, pos := _, after := #[{ on := 5, ground := Ground.data }, { on := 5, ground := Ground.chain }, { on := 0, ground := Ground.phase }, { on := 1, ground := Ground.phase }, { on := 2, ground := Ground.phase }, { on := 3, ground := Ground.phase }, { on := 4, ground := Ground.phase }, { on := 5, ground := Ground.phase }], guard := none }) (v := ?_) rfl (by kernel_rfl) (by kernel_rfl) (by kernel_rfl) (fun _ _ _ h => h) (Or.inl ⟨by rfl, ?_⟩) (by assumption) ?_
      rotate_left
      · intro wt hSw; (try dsimp only at hSw); have s0 := cellB hSw s0 z0; have s1 := cellB hSw s1 z0; have s2 := cellB hSw s2 z0; have s3 := cellB hSw s3 z0; have g4 := cellB hSw g4 z1; have d0 := cellB hSw d0 zb; have d1 := cellB hSw d1 zb; have d2 := cellB hSw d2 zb; have d3 := cellB hSw d3 zb; have d4 := cellB hSw d4 zb; first | (go_simp; done) | (go_simp; with_reducible rfl) | (trace_state; fail)
      try simp only [Act.put, List.setIfInBounds_toArray, List.set_cons_zero, List.set_cons_succ]
      refine wpAnyH_done (by kernel_rfl) ?_ _
      have HHw := Lib.hid (HB0.out.trans (hHeld.mono HB0.out.size))
      have g0 := cellB hHeld g0 z1
      have g1 := cellB hHeld g1 z1
      have g2 := cellB hHeld g2 z1
      have g3 := cellB hHeld g3 z1
      have g4 := cellB hHeld g4 z1
      clear hHeld s0 s1 s2 s3 d0 d1 d2 d3 d4
      go_wp2_with fail
      refine (hK0 _).mono ?_; rintro r w2 ⟨rfl, rfl⟩
      go_wp2_with fail
      go_ret
      exact ⟨by rw [hres.out]; rfl, HHw.out⟩
    subst hm
    cases hk : kRight t
    · rw [hk] at hKt
      have hres := Lib.hid (show Z = 0 by rw [← HZ.out]; unfold singleT; simp [hT, hk])
      clear hT hk
      go_enter Tryd.func11, Tryd.ntmps11
      go_upto_region 5 with fail
      rw [← HW0.out]
      refine wp_region_held_drew (S := (fun w' => Below W0.heap.size W0 w')) (by kernel_rfl) ?_ (fun hHeld => ?_)
      · (try dsimp only); first | assumption | exact Below.alloc hHeld hHeld.size _ | exact (Below.refl _ _).drew | exact Below.drew (Below.refl _ _) | exact Below_drewN _ _ _ | exact Below.refl _ _ | (trace_state; fail)
      refine wpAnyH_take (i := 0) (oi := { dst := some 17, op := Op.load 37 (Operand.tmp 2), type := 37, pos := _, after := #[], guard := none }) (v := ?_) rfl (by kernel_rfl) (by kernel_rfl) (by kernel_rfl) (fun _ _ _ h => h) (Or.inl ⟨by rfl, ?_⟩) (by assumption) ?_
      rotate_left
      · intro wt hSw; (try dsimp only at hSw); have s0 := cellB hSw s0 z0; have s1 := cellB hSw s1 z0; have s2 := cellB hSw s2 z0; have s3 := cellB hSw s3 z0; have g4 := cellB hSw g4 z1; have d0 := cellB hSw d0 zb; have d1 := cellB hSw d1 zb; have d2 := cellB hSw d2 zb; have d3 := cellB hSw d3 zb; have d4 := cellB hSw d4 zb; first | (go_simp; done) | (go_simp; with_reducible rfl) | (trace_state; fail)
      try simp only [Act.put, List.setIfInBounds_toArray, List.set_cons_zero, List.set_cons_succ]
      refine wpAnyH_take (i := 1) (oi := { dst := some 18, op := Op.fieldAddr 30 (Operand.tmp 3) 4, type := 0, pos := _, after := #[], guard := none }) (v := ?_) rfl (by kernel_rfl) (by kernel_rfl) (by kernel_rfl) (fun _ _ _ h => h) (Or.inl ⟨by rfl, ?_⟩) (by assumption) ?_
      rotate_left
      · intro wt hSw; (try dsimp only at hSw); have s0 := cellB hSw s0 z0; have s1 := cellB hSw s1 z0; have s2 := cellB hSw s2 z0; have s3 := cellB hSw s3 z0; have g4 := cellB hSw g4 z1; have d0 := cellB hSw d0 zb; have d1 := cellB hSw d1 zb; have d2 := cellB hSw d2 zb; have d3 := cellB hSw d3 zb; have d4 := cellB hSw d4 zb; first | (go_simp; done) | (go_simp; with_reducible rfl) | (trace_state; fail)
      try simp only [Act.put, List.setIfInBounds_toArray, List.set_cons_zero, List.set_cons_succ]
      refine wpAnyH_take (i := 2) (oi := { dst := some 19, op := Op.load 28 (Operand.tmp 18), type := 28, pos := _, after := #[{ on := 1, ground := Ground.data }], guard := none }) (v := ?_) rfl (by kernel_rfl) (by kernel_rfl) (by kernel_rfl) (fun _ _ _ h => h) (Or.inl ⟨by rfl, ?_⟩) (by assumption) ?_
      rotate_left
      · intro wt hSw; (try dsimp only at hSw); have s0 := cellB hSw s0 z0; have s1 := cellB hSw s1 z0; have s2 := cellB hSw s2 z0; have s3 := cellB hSw s3 z0; have g4 := cellB hSw g4 z1; have d0 := cellB hSw d0 zb; have d1 := cellB hSw d1 zb; have d2 := cellB hSw d2 zb; have d3 := cellB hSw d3 zb; have d4 := cellB hSw d4 zb; first | (go_simp; done) | (go_simp; with_reducible rfl) | (trace_state; fail)
      try simp only [Act.put, List.setIfInBounds_toArray, List.set_cons_zero, List.set_cons_succ]
      refine wpAnyH_take (i := 3) (oi := { dst := some 20, op := Op.indexAddr 28 (Operand.tmp 19) (Operand.const (Value.int IntKind.i64 0)), type := 0, pos := _, after := #[{ on := 2, ground := Ground.data }], guard := none }) (v := ?_) rfl (by kernel_rfl) (by kernel_rfl) (by kernel_rfl) (fun _ _ _ h => h) (Or.inl ⟨by rfl, ?_⟩) (by assumption) ?_
      rotate_left
      · intro wt hSw; (try dsimp only at hSw); have s0 := cellB hSw s0 z0; have s1 := cellB hSw s1 z0; have s2 := cellB hSw s2 z0; have s3 := cellB hSw s3 z0; have g4 := cellB hSw g4 z1; have d0 := cellB hSw d0 zb; have d1 := cellB hSw d1 zb; have d2 := cellB hSw d2 zb; have d3 := cellB hSw d3 zb; have d4 := cellB hSw d4 zb; first | (go_simp; done) | (go_simp; with_reducible rfl) | (trace_state; fail)
      try simp only [Act.put, List.setIfInBounds_toArray, List.set_cons_zero, List.set_cons_succ]
      refine wpAnyH_take (i := 4) (oi := { dst := some 21, op := Op.load 30 (Operand.tmp 20), type := 30, pos := _, after := #[{ on := 3, ground := Ground.data }], guard := none }) (v := ?_) rfl (by kernel_rfl) (by kernel_rfl) (by kernel_rfl) (fun _ _ _ h => h) (Or.inl ⟨by rfl, ?_⟩) (by assumption) ?_
      rotate_left
      · intro wt hSw; (try dsimp only at hSw); have s0 := cellB hSw s0 z0; have s1 := cellB hSw s1 z0; have s2 := cellB hSw s2 z0; have s3 := cellB hSw s3 z0; have g4 := cellB hSw g4 z1; have d0 := cellB hSw d0 zb; have d1 := cellB hSw d1 zb; have d2 := cellB hSw d2 zb; have d3 := cellB hSw d3 zb; have d4 := cellB hSw d4 zb; first | (go_simp; done) | (go_simp; with_reducible rfl) | (trace_state; fail)
      try simp only [Act.put, List.setIfInBounds_toArray, List.set_cons_zero, List.set_cons_succ]
      refine wpAnyH_ready (rs := [5]) (by kernel_rfl) (by simp) ?_
      refine AllReadyH.cons (o := { dst := some 22, op := Op.call { callee := Callee.value (Operand.func 11), args := #[Operand.tmp 17, Operand.tmp 21], argTypes := #[37, 30] }, type := 3, pos := _, after := #[{ on := 0, ground := Ground.data }, { on := 4, ground := Ground.data }], guard := none }) rfl (fun K hK => ?_) AllReadyH.nil
      go_simp
      refine (HXc.out _ trivial hHeld).mono ?_; rintro r w2 ⟨rfl, hb⟩; have hHeld := hHeld.trans (hb.mono hHeld.size)
      go_wp2_with fail
      refine hK.out _ _ ?_ (fun hHeld => ?_)
      · (try dsimp only); first | assumption | exact Below.alloc hHeld hHeld.size _ | exact (Below.refl _ _).drew | exact Below.drew (Below.refl _ _) | exact Below_drewN _ _ _ | exact Below.refl _ _ | (trace_state; fail)
      clear hK K
      try simp only [Act.put, List.setIfInBounds_toArray, List.set_cons_zero, List.set_cons_succ]
      refine wpAnyH_take (i := 6) (oi := { dst := some 6, op := Op.assign (Operand.tmp 22), type := 3, pos := _, after := #[{ on := 5, ground := Ground.data }, { on := 5, ground := Ground.chain }, { on := 0, ground := Ground.phase }, { on := 1, ground := Ground.phase }, { on := 2, ground := Ground.phase }, { on := 3, ground := Ground.phase }, { on := 4, ground := Ground.phase }, { on := 5, ground := Ground.phase }], guard := none }) (v := ?_) rfl (by kernel_rfl) (by kernel_rfl) (by kernel_rfl) (fun _ _ _ h => h) (Or.inl ⟨by rfl, ?_⟩) (by assumption) ?_
      rotate_left
      · intro wt hSw; (try dsimp only at hSw); have s0 := cellB hSw s0 z0; have s1 := cellB hSw s1 z0; have s2 := cellB hSw s2 z0; have s3 := cellB hSw s3 z0; have g4 := cellB hSw g4 z1; have d0 := cellB hSw d0 zb; have d1 := cellB hSw d1 zb; have d2 := cellB hSw d2 zb; have d3 := cellB hSw d3 zb; have d4 := cellB hSw d4 zb; first | (go_simp; done) | (go_simp; with_reducible rfl) | (trace_state; fail)
      try simp only [Act.put, List.setIfInBounds_toArray, List.set_cons_zero, List.set_cons_succ]
      refine wpAnyH_done (by kernel_rfl) ?_ _
      have HHw := Lib.hid (HB0.out.trans (hHeld.mono HB0.out.size))
      have g0 := cellB hHeld g0 z1
      have g1 := cellB hHeld g1 z1
      have g2 := cellB hHeld g2 z1
      have g3 := cellB hHeld g3 z1
      have g4 := cellB hHeld g4 z1
      clear hHeld s0 s1 s2 s3 d0 d1 d2 d3 d4
      go_wp2_with fail
      refine (hKt _).mono ?_; rintro r w2 ⟨rfl, rfl⟩
      go_wp2_with fail
      go_ret
      exact ⟨by rw [hres.out]; rfl, HHw.out⟩
    · rw [hk] at hKt
      have hres := Lib.hid (show Z = t by rw [← HZ.out]; unfold singleT; simp [hT, hk])
      clear hT hk
      go_enter Tryd.func11, Tryd.ntmps11
      go_upto_region 5 with fail
      rw [← HW0.out]
      refine wp_region_held_drew (S := (fun w' => Below W0.heap.size W0 w')) (by kernel_rfl) ?_ (fun hHeld => ?_)
      · (try dsimp only); first | assumption | exact Below.alloc hHeld hHeld.size _ | exact (Below.refl _ _).drew | exact Below.drew (Below.refl _ _) | exact Below_drewN _ _ _ | exact Below.refl _ _ | (trace_state; fail)
      refine wpAnyH_take (i := 0) (oi := { dst := some 17, op := Op.load 37 (Operand.tmp 2), type := 37, pos := _, after := #[], guard := none }) (v := ?_) rfl (by kernel_rfl) (by kernel_rfl) (by kernel_rfl) (fun _ _ _ h => h) (Or.inl ⟨by rfl, ?_⟩) (by assumption) ?_
      rotate_left
      · intro wt hSw; (try dsimp only at hSw); have s0 := cellB hSw s0 z0; have s1 := cellB hSw s1 z0; have s2 := cellB hSw s2 z0; have s3 := cellB hSw s3 z0; have g4 := cellB hSw g4 z1; have d0 := cellB hSw d0 zb; have d1 := cellB hSw d1 zb; have d2 := cellB hSw d2 zb; have d3 := cellB hSw d3 zb; have d4 := cellB hSw d4 zb; first | (go_simp; done) | (go_simp; with_reducible rfl) | (trace_state; fail)
      try simp only [Act.put, List.setIfInBounds_toArray, List.set_cons_zero, List.set_cons_succ]
      refine wpAnyH_take (i := 1) (oi := { dst := some 18, op := Op.fieldAddr 30 (Operand.tmp 3) 4, type := 0, pos := _, after := #[], guard := none }) (v := ?_) rfl (by kernel_rfl) (by kernel_rfl) (by kernel_rfl) (fun _ _ _ h => h) (Or.inl ⟨by rfl, ?_⟩) (by assumption) ?_
      rotate_left
      · intro wt hSw; (try dsimp only at hSw); have s0 := cellB hSw s0 z0; have s1 := cellB hSw s1 z0; have s2 := cellB hSw s2 z0; have s3 := cellB hSw s3 z0; have g4 := cellB hSw g4 z1; have d0 := cellB hSw d0 zb; have d1 := cellB hSw d1 zb; have d2 := cellB hSw d2 zb; have d3 := cellB hSw d3 zb; have d4 := cellB hSw d4 zb; first | (go_simp; done) | (go_simp; with_reducible rfl) | (trace_state; fail)
      try simp only [Act.put, List.setIfInBounds_toArray, List.set_cons_zero, List.set_cons_succ]
      refine wpAnyH_take (i := 2) (oi := { dst := some 19, op := Op.load 28 (Operand.tmp 18), type := 28, pos := _, after := #[{ on := 1, ground := Ground.data }], guard := none }) (v := ?_) rfl (by kernel_rfl) (by kernel_rfl) (by kernel_rfl) (fun _ _ _ h => h) (Or.inl ⟨by rfl, ?_⟩) (by assumption) ?_
      rotate_left
      · intro wt hSw; (try dsimp only at hSw); have s0 := cellB hSw s0 z0; have s1 := cellB hSw s1 z0; have s2 := cellB hSw s2 z0; have s3 := cellB hSw s3 z0; have g4 := cellB hSw g4 z1; have d0 := cellB hSw d0 zb; have d1 := cellB hSw d1 zb; have d2 := cellB hSw d2 zb; have d3 := cellB hSw d3 zb; have d4 := cellB hSw d4 zb; first | (go_simp; done) | (go_simp; with_reducible rfl) | (trace_state; fail)
      try simp only [Act.put, List.setIfInBounds_toArray, List.set_cons_zero, List.set_cons_succ]
      refine wpAnyH_take (i := 3) (oi := { dst := some 20, op := Op.indexAddr 28 (Operand.tmp 19) (Operand.const (Value.int IntKind.i64 0)), type := 0, pos := _, after := #[{ on := 2, ground := Ground.data }], guard := none }) (v := ?_) rfl (by kernel_rfl) (by kernel_rfl) (by kernel_rfl) (fun _ _ _ h => h) (Or.inl ⟨by rfl, ?_⟩) (by assumption) ?_
      rotate_left
      · intro wt hSw; (try dsimp only at hSw); have s0 := cellB hSw s0 z0; have s1 := cellB hSw s1 z0; have s2 := cellB hSw s2 z0; have s3 := cellB hSw s3 z0; have g4 := cellB hSw g4 z1; have d0 := cellB hSw d0 zb; have d1 := cellB hSw d1 zb; have d2 := cellB hSw d2 zb; have d3 := cellB hSw d3 zb; have d4 := cellB hSw d4 zb; first | (go_simp; done) | (go_simp; with_reducible rfl) | (trace_state; fail)
      try simp only [Act.put, List.setIfInBounds_toArray, List.set_cons_zero, List.set_cons_succ]
      refine wpAnyH_take (i := 4) (oi := { dst := some 21, op := Op.load 30 (Operand.tmp 20), type := 30, pos := _, after := #[{ on := 3, ground := Ground.data }], guard := none }) (v := ?_) rfl (by kernel_rfl) (by kernel_rfl) (by kernel_rfl) (fun _ _ _ h => h) (Or.inl ⟨by rfl, ?_⟩) (by assumption) ?_
      rotate_left
      · intro wt hSw; (try dsimp only at hSw); have s0 := cellB hSw s0 z0; have s1 := cellB hSw s1 z0; have s2 := cellB hSw s2 z0; have s3 := cellB hSw s3 z0; have g4 := cellB hSw g4 z1; have d0 := cellB hSw d0 zb; have d1 := cellB hSw d1 zb; have d2 := cellB hSw d2 zb; have d3 := cellB hSw d3 zb; have d4 := cellB hSw d4 zb; first | (go_simp; done) | (go_simp; with_reducible rfl) | (trace_state; fail)
      try simp only [Act.put, List.setIfInBounds_toArray, List.set_cons_zero, List.set_cons_succ]
      refine wpAnyH_ready (rs := [5]) (by kernel_rfl) (by simp) ?_
      refine AllReadyH.cons (o := { dst := some 22, op := Op.call { callee := Callee.value (Operand.func 11), args := #[Operand.tmp 17, Operand.tmp 21], argTypes := #[37, 30] }, type := 3, pos := _, after := #[{ on := 0, ground := Ground.data }, { on := 4, ground := Ground.data }], guard := none }) rfl (fun K hK => ?_) AllReadyH.nil
      go_simp
      refine (HXc.out _ trivial hHeld).mono ?_; rintro r w2 ⟨rfl, hb⟩; have hHeld := hHeld.trans (hb.mono hHeld.size)
      go_wp2_with fail
      refine hK.out _ _ ?_ (fun hHeld => ?_)
      · (try dsimp only); first | assumption | exact Below.alloc hHeld hHeld.size _ | exact (Below.refl _ _).drew | exact Below.drew (Below.refl _ _) | exact Below_drewN _ _ _ | exact Below.refl _ _ | (trace_state; fail)
      clear hK K
      try simp only [Act.put, List.setIfInBounds_toArray, List.set_cons_zero, List.set_cons_succ]
      refine wpAnyH_take (i := 6) (oi := { dst := some 6, op := Op.assign (Operand.tmp 22), type := 3, pos := _, after := #[{ on := 5, ground := Ground.data }, { on := 5, ground := Ground.chain }, { on := 0, ground := Ground.phase }, { on := 1, ground := Ground.phase }, { on := 2, ground := Ground.phase }, { on := 3, ground := Ground.phase }, { on := 4, ground := Ground.phase }, { on := 5, ground := Ground.phase }], guard := none }) (v := ?_) rfl (by kernel_rfl) (by kernel_rfl) (by kernel_rfl) (fun _ _ _ h => h) (Or.inl ⟨by rfl, ?_⟩) (by assumption) ?_
      rotate_left
      · intro wt hSw; (try dsimp only at hSw); have s0 := cellB hSw s0 z0; have s1 := cellB hSw s1 z0; have s2 := cellB hSw s2 z0; have s3 := cellB hSw s3 z0; have g4 := cellB hSw g4 z1; have d0 := cellB hSw d0 zb; have d1 := cellB hSw d1 zb; have d2 := cellB hSw d2 zb; have d3 := cellB hSw d3 zb; have d4 := cellB hSw d4 zb; first | (go_simp; done) | (go_simp; with_reducible rfl) | (trace_state; fail)
      try simp only [Act.put, List.setIfInBounds_toArray, List.set_cons_zero, List.set_cons_succ]
      refine wpAnyH_done (by kernel_rfl) ?_ _
      have HHw := Lib.hid (HB0.out.trans (hHeld.mono HB0.out.size))
      have g0 := cellB hHeld g0 z1
      have g1 := cellB hHeld g1 z1
      have g2 := cellB hHeld g2 z1
      have g3 := cellB hHeld g3 z1
      have g4 := cellB hHeld g4 z1
      clear hHeld s0 s1 s2 s3 d0 d1 d2 d3 d4
      go_wp2_with fail
      refine (hKt _).mono ?_; rintro r w2 ⟨rfl, rfl⟩
      go_wp2_with fail
      go_ret
      exact ⟨by rw [hres.out]; rfl, HHw.out⟩
  have e8 : (op == 8) = false := by simpa using h8
  by_cases h6 : op = 6
  · subst h6
    by_cases ht : t = 0
    case neg =>
      have et : (t == 0) = false := by simpa using ht
      have hres := Lib.hid (show Z = 0 by rw [← HZ.out]; unfold singleT; simp [hT, ht])
      clear hT ht h8
      go_enter Tryd.func11, Tryd.ntmps11
      go_upto_region 5 with fail
      rw [← HW0.out]
      refine wp_region_held_drew (S := (fun w' => Below W0.heap.size W0 w')) (by kernel_rfl) ?_ (fun hHeld => ?_)
      · (try dsimp only); first | assumption | exact Below.alloc hHeld hHeld.size _ | exact (Below.refl _ _).drew | exact Below.drew (Below.refl _ _) | exact Below_drewN _ _ _ | exact Below.refl _ _ | (trace_state; fail)
      refine wpAnyH_take (i := 0) (oi := { dst := some 17, op := Op.load 37 (Operand.tmp 2), type := 37, pos := _, after := #[], guard := none }) (v := ?_) rfl (by kernel_rfl) (by kernel_rfl) (by kernel_rfl) (fun _ _ _ h => h) (Or.inl ⟨by rfl, ?_⟩) (by assumption) ?_
      rotate_left
      · intro wt hSw; (try dsimp only at hSw); have s0 := cellB hSw s0 z0; have s1 := cellB hSw s1 z0; have s2 := cellB hSw s2 z0; have s3 := cellB hSw s3 z0; have g4 := cellB hSw g4 z1; have d0 := cellB hSw d0 zb; have d1 := cellB hSw d1 zb; have d2 := cellB hSw d2 zb; have d3 := cellB hSw d3 zb; have d4 := cellB hSw d4 zb; first | (go_simp; done) | (go_simp; with_reducible rfl) | (trace_state; fail)
      try simp only [Act.put, List.setIfInBounds_toArray, List.set_cons_zero, List.set_cons_succ]
      refine wpAnyH_take (i := 1) (oi := { dst := some 18, op := Op.fieldAddr 30 (Operand.tmp 3) 4, type := 0, pos := _, after := #[], guard := none }) (v := ?_) rfl (by kernel_rfl) (by kernel_rfl) (by kernel_rfl) (fun _ _ _ h => h) (Or.inl ⟨by rfl, ?_⟩) (by assumption) ?_
      rotate_left
      · intro wt hSw; (try dsimp only at hSw); have s0 := cellB hSw s0 z0; have s1 := cellB hSw s1 z0; have s2 := cellB hSw s2 z0; have s3 := cellB hSw s3 z0; have g4 := cellB hSw g4 z1; have d0 := cellB hSw d0 zb; have d1 := cellB hSw d1 zb; have d2 := cellB hSw d2 zb; have d3 := cellB hSw d3 zb; have d4 := cellB hSw d4 zb; first | (go_simp; done) | (go_simp; with_reducible rfl) | (trace_state; fail)
      try simp only [Act.put, List.setIfInBounds_toArray, List.set_cons_zero, List.set_cons_succ]
      refine wpAnyH_take (i := 2) (oi := { dst := some 19, op := Op.load 28 (Operand.tmp 18), type := 28, pos := _, after := #[{ on := 1, ground := Ground.data }], guard := none }) (v := ?_) rfl (by kernel_rfl) (by kernel_rfl) (by kernel_rfl) (fun _ _ _ h => h) (Or.inl ⟨by rfl, ?_⟩) (by assumption) ?_
      rotate_left
      · intro wt hSw; (try dsimp only at hSw); have s0 := cellB hSw s0 z0; have s1 := cellB hSw s1 z0; have s2 := cellB hSw s2 z0; have s3 := cellB hSw s3 z0; have g4 := cellB hSw g4 z1; have d0 := cellB hSw d0 zb; have d1 := cellB hSw d1 zb; have d2 := cellB hSw d2 zb; have d3 := cellB hSw d3 zb; have d4 := cellB hSw d4 zb; first | (go_simp; done) | (go_simp; with_reducible rfl) | (trace_state; fail)
      try simp only [Act.put, List.setIfInBounds_toArray, List.set_cons_zero, List.set_cons_succ]
      refine wpAnyH_take (i := 3) (oi := { dst := some 20, op := Op.indexAddr 28 (Operand.tmp 19) (Operand.const (Value.int IntKind.i64 0)), type := 0, pos := _, after := #[{ on := 2, ground := Ground.data }], guard := none }) (v := ?_) rfl (by kernel_rfl) (by kernel_rfl) (by kernel_rfl) (fun _ _ _ h => h) (Or.inl ⟨by rfl, ?_⟩) (by assumption) ?_
      rotate_left
      · intro wt hSw; (try dsimp only at hSw); have s0 := cellB hSw s0 z0; have s1 := cellB hSw s1 z0; have s2 := cellB hSw s2 z0; have s3 := cellB hSw s3 z0; have g4 := cellB hSw g4 z1; have d0 := cellB hSw d0 zb; have d1 := cellB hSw d1 zb; have d2 := cellB hSw d2 zb; have d3 := cellB hSw d3 zb; have d4 := cellB hSw d4 zb; first | (go_simp; done) | (go_simp; with_reducible rfl) | (trace_state; fail)
      try simp only [Act.put, List.setIfInBounds_toArray, List.set_cons_zero, List.set_cons_succ]
      refine wpAnyH_take (i := 4) (oi := { dst := some 21, op := Op.load 30 (Operand.tmp 20), type := 30, pos := _, after := #[{ on := 3, ground := Ground.data }], guard := none }) (v := ?_) rfl (by kernel_rfl) (by kernel_rfl) (by kernel_rfl) (fun _ _ _ h => h) (Or.inl ⟨by rfl, ?_⟩) (by assumption) ?_
      rotate_left
      · intro wt hSw; (try dsimp only at hSw); have s0 := cellB hSw s0 z0; have s1 := cellB hSw s1 z0; have s2 := cellB hSw s2 z0; have s3 := cellB hSw s3 z0; have g4 := cellB hSw g4 z1; have d0 := cellB hSw d0 zb; have d1 := cellB hSw d1 zb; have d2 := cellB hSw d2 zb; have d3 := cellB hSw d3 zb; have d4 := cellB hSw d4 zb; first | (go_simp; done) | (go_simp; with_reducible rfl) | (trace_state; fail)
      try simp only [Act.put, List.setIfInBounds_toArray, List.set_cons_zero, List.set_cons_succ]
      refine wpAnyH_ready (rs := [5]) (by kernel_rfl) (by simp) ?_
      refine AllReadyH.cons (o := { dst := some 22, op := Op.call { callee := Callee.value (Operand.func 11), args := #[Operand.tmp 17, Operand.tmp 21], argTypes := #[37, 30] }, type := 3, pos := _, after := #[{ on := 0, ground := Ground.data }, { on := 4, ground := Ground.data }], guard := none }) rfl (fun K hK => ?_) AllReadyH.nil
      go_simp
      refine (HXc.out _ trivial hHeld).mono ?_; rintro r w2 ⟨rfl, hb⟩; have hHeld := hHeld.trans (hb.mono hHeld.size)
      go_wp2_with fail
      refine hK.out _ _ ?_ (fun hHeld => ?_)
      · (try dsimp only); first | assumption | exact Below.alloc hHeld hHeld.size _ | exact (Below.refl _ _).drew | exact Below.drew (Below.refl _ _) | exact Below_drewN _ _ _ | exact Below.refl _ _ | (trace_state; fail)
      clear hK K
      try simp only [Act.put, List.setIfInBounds_toArray, List.set_cons_zero, List.set_cons_succ]
      refine wpAnyH_take (i := 6) (oi := { dst := some 6, op := Op.assign (Operand.tmp 22), type := 3, pos := _, after := #[{ on := 5, ground := Ground.data }, { on := 5, ground := Ground.chain }, { on := 0, ground := Ground.phase }, { on := 1, ground := Ground.phase }, { on := 2, ground := Ground.phase }, { on := 3, ground := Ground.phase }, { on := 4, ground := Ground.phase }, { on := 5, ground := Ground.phase }], guard := none }) (v := ?_) rfl (by kernel_rfl) (by kernel_rfl) (by kernel_rfl) (fun _ _ _ h => h) (Or.inl ⟨by rfl, ?_⟩) (by assumption) ?_
      rotate_left
      · intro wt hSw; (try dsimp only at hSw); have s0 := cellB hSw s0 z0; have s1 := cellB hSw s1 z0; have s2 := cellB hSw s2 z0; have s3 := cellB hSw s3 z0; have g4 := cellB hSw g4 z1; have d0 := cellB hSw d0 zb; have d1 := cellB hSw d1 zb; have d2 := cellB hSw d2 zb; have d3 := cellB hSw d3 zb; have d4 := cellB hSw d4 zb; first | (go_simp; done) | (go_simp; with_reducible rfl) | (trace_state; fail)
      try simp only [Act.put, List.setIfInBounds_toArray, List.set_cons_zero, List.set_cons_succ]
      refine wpAnyH_done (by kernel_rfl) ?_ _
      have HHw := Lib.hid (HB0.out.trans (hHeld.mono HB0.out.size))
      have g0 := cellB hHeld g0 z1
      have g1 := cellB hHeld g1 z1
      have g2 := cellB hHeld g2 z1
      have g3 := cellB hHeld g3 z1
      have g4 := cellB hHeld g4 z1
      clear hHeld s0 s1 s2 s3 d0 d1 d2 d3 d4
      go_wp2_with fail
      refine (hK0 _).mono ?_; rintro r w2 ⟨rfl, rfl⟩
      go_wp2_with fail
      go_ret
      exact ⟨by rw [hres.out]; rfl, HHw.out⟩
    subst ht
    by_cases hn : n = 0
    case neg =>
      have en : (n == 0) = false := by simpa using hn
      have hres := Lib.hid (show Z = 0 by rw [← HZ.out]; unfold singleT; simp [hT, hn])
      clear hT hn h8
      go_enter Tryd.func11, Tryd.ntmps11
      go_upto_region 5 with fail
      rw [← HW0.out]
      refine wp_region_held_drew (S := (fun w' => Below W0.heap.size W0 w')) (by kernel_rfl) ?_ (fun hHeld => ?_)
      · (try dsimp only); first | assumption | exact Below.alloc hHeld hHeld.size _ | exact (Below.refl _ _).drew | exact Below.drew (Below.refl _ _) | exact Below_drewN _ _ _ | exact Below.refl _ _ | (trace_state; fail)
      refine wpAnyH_take (i := 0) (oi := { dst := some 17, op := Op.load 37 (Operand.tmp 2), type := 37, pos := _, after := #[], guard := none }) (v := ?_) rfl (by kernel_rfl) (by kernel_rfl) (by kernel_rfl) (fun _ _ _ h => h) (Or.inl ⟨by rfl, ?_⟩) (by assumption) ?_
      rotate_left
      · intro wt hSw; (try dsimp only at hSw); have s0 := cellB hSw s0 z0; have s1 := cellB hSw s1 z0; have s2 := cellB hSw s2 z0; have s3 := cellB hSw s3 z0; have g4 := cellB hSw g4 z1; have d0 := cellB hSw d0 zb; have d1 := cellB hSw d1 zb; have d2 := cellB hSw d2 zb; have d3 := cellB hSw d3 zb; have d4 := cellB hSw d4 zb; first | (go_simp; done) | (go_simp; with_reducible rfl) | (trace_state; fail)
      try simp only [Act.put, List.setIfInBounds_toArray, List.set_cons_zero, List.set_cons_succ]
      refine wpAnyH_take (i := 1) (oi := { dst := some 18, op := Op.fieldAddr 30 (Operand.tmp 3) 4, type := 0, pos := _, after := #[], guard := none }) (v := ?_) rfl (by kernel_rfl) (by kernel_rfl) (by kernel_rfl) (fun _ _ _ h => h) (Or.inl ⟨by rfl, ?_⟩) (by assumption) ?_
      rotate_left
      · intro wt hSw; (try dsimp only at hSw); have s0 := cellB hSw s0 z0; have s1 := cellB hSw s1 z0; have s2 := cellB hSw s2 z0; have s3 := cellB hSw s3 z0; have g4 := cellB hSw g4 z1; have d0 := cellB hSw d0 zb; have d1 := cellB hSw d1 zb; have d2 := cellB hSw d2 zb; have d3 := cellB hSw d3 zb; have d4 := cellB hSw d4 zb; first | (go_simp; done) | (go_simp; with_reducible rfl) | (trace_state; fail)
      try simp only [Act.put, List.setIfInBounds_toArray, List.set_cons_zero, List.set_cons_succ]
      refine wpAnyH_take (i := 2) (oi := { dst := some 19, op := Op.load 28 (Operand.tmp 18), type := 28, pos := _, after := #[{ on := 1, ground := Ground.data }], guard := none }) (v := ?_) rfl (by kernel_rfl) (by kernel_rfl) (by kernel_rfl) (fun _ _ _ h => h) (Or.inl ⟨by rfl, ?_⟩) (by assumption) ?_
      rotate_left
      · intro wt hSw; (try dsimp only at hSw); have s0 := cellB hSw s0 z0; have s1 := cellB hSw s1 z0; have s2 := cellB hSw s2 z0; have s3 := cellB hSw s3 z0; have g4 := cellB hSw g4 z1; have d0 := cellB hSw d0 zb; have d1 := cellB hSw d1 zb; have d2 := cellB hSw d2 zb; have d3 := cellB hSw d3 zb; have d4 := cellB hSw d4 zb; first | (go_simp; done) | (go_simp; with_reducible rfl) | (trace_state; fail)
      try simp only [Act.put, List.setIfInBounds_toArray, List.set_cons_zero, List.set_cons_succ]
      refine wpAnyH_take (i := 3) (oi := { dst := some 20, op := Op.indexAddr 28 (Operand.tmp 19) (Operand.const (Value.int IntKind.i64 0)), type := 0, pos := _, after := #[{ on := 2, ground := Ground.data }], guard := none }) (v := ?_) rfl (by kernel_rfl) (by kernel_rfl) (by kernel_rfl) (fun _ _ _ h => h) (Or.inl ⟨by rfl, ?_⟩) (by assumption) ?_
      rotate_left
      · intro wt hSw; (try dsimp only at hSw); have s0 := cellB hSw s0 z0; have s1 := cellB hSw s1 z0; have s2 := cellB hSw s2 z0; have s3 := cellB hSw s3 z0; have g4 := cellB hSw g4 z1; have d0 := cellB hSw d0 zb; have d1 := cellB hSw d1 zb; have d2 := cellB hSw d2 zb; have d3 := cellB hSw d3 zb; have d4 := cellB hSw d4 zb; first | (go_simp; done) | (go_simp; with_reducible rfl) | (trace_state; fail)
      try simp only [Act.put, List.setIfInBounds_toArray, List.set_cons_zero, List.set_cons_succ]
      refine wpAnyH_take (i := 4) (oi := { dst := some 21, op := Op.load 30 (Operand.tmp 20), type := 30, pos := _, after := #[{ on := 3, ground := Ground.data }], guard := none }) (v := ?_) rfl (by kernel_rfl) (by kernel_rfl) (by kernel_rfl) (fun _ _ _ h => h) (Or.inl ⟨by rfl, ?_⟩) (by assumption) ?_
      rotate_left
      · intro wt hSw; (try dsimp only at hSw); have s0 := cellB hSw s0 z0; have s1 := cellB hSw s1 z0; have s2 := cellB hSw s2 z0; have s3 := cellB hSw s3 z0; have g4 := cellB hSw g4 z1; have d0 := cellB hSw d0 zb; have d1 := cellB hSw d1 zb; have d2 := cellB hSw d2 zb; have d3 := cellB hSw d3 zb; have d4 := cellB hSw d4 zb; first | (go_simp; done) | (go_simp; with_reducible rfl) | (trace_state; fail)
      try simp only [Act.put, List.setIfInBounds_toArray, List.set_cons_zero, List.set_cons_succ]
      refine wpAnyH_ready (rs := [5]) (by kernel_rfl) (by simp) ?_
      refine AllReadyH.cons (o := { dst := some 22, op := Op.call { callee := Callee.value (Operand.func 11), args := #[Operand.tmp 17, Operand.tmp 21], argTypes := #[37, 30] }, type := 3, pos := _, after := #[{ on := 0, ground := Ground.data }, { on := 4, ground := Ground.data }], guard := none }) rfl (fun K hK => ?_) AllReadyH.nil
      go_simp
      refine (HXc.out _ trivial hHeld).mono ?_; rintro r w2 ⟨rfl, hb⟩; have hHeld := hHeld.trans (hb.mono hHeld.size)
      go_wp2_with fail
      refine hK.out _ _ ?_ (fun hHeld => ?_)
      · (try dsimp only); first | assumption | exact Below.alloc hHeld hHeld.size _ | exact (Below.refl _ _).drew | exact Below.drew (Below.refl _ _) | exact Below_drewN _ _ _ | exact Below.refl _ _ | (trace_state; fail)
      clear hK K
      try simp only [Act.put, List.setIfInBounds_toArray, List.set_cons_zero, List.set_cons_succ]
      refine wpAnyH_take (i := 6) (oi := { dst := some 6, op := Op.assign (Operand.tmp 22), type := 3, pos := _, after := #[{ on := 5, ground := Ground.data }, { on := 5, ground := Ground.chain }, { on := 0, ground := Ground.phase }, { on := 1, ground := Ground.phase }, { on := 2, ground := Ground.phase }, { on := 3, ground := Ground.phase }, { on := 4, ground := Ground.phase }, { on := 5, ground := Ground.phase }], guard := none }) (v := ?_) rfl (by kernel_rfl) (by kernel_rfl) (by kernel_rfl) (fun _ _ _ h => h) (Or.inl ⟨by rfl, ?_⟩) (by assumption) ?_
      rotate_left
      · intro wt hSw; (try dsimp only at hSw); have s0 := cellB hSw s0 z0; have s1 := cellB hSw s1 z0; have s2 := cellB hSw s2 z0; have s3 := cellB hSw s3 z0; have g4 := cellB hSw g4 z1; have d0 := cellB hSw d0 zb; have d1 := cellB hSw d1 zb; have d2 := cellB hSw d2 zb; have d3 := cellB hSw d3 zb; have d4 := cellB hSw d4 zb; first | (go_simp; done) | (go_simp; with_reducible rfl) | (trace_state; fail)
      try simp only [Act.put, List.setIfInBounds_toArray, List.set_cons_zero, List.set_cons_succ]
      refine wpAnyH_done (by kernel_rfl) ?_ _
      have HHw := Lib.hid (HB0.out.trans (hHeld.mono HB0.out.size))
      have g0 := cellB hHeld g0 z1
      have g1 := cellB hHeld g1 z1
      have g2 := cellB hHeld g2 z1
      have g3 := cellB hHeld g3 z1
      have g4 := cellB hHeld g4 z1
      clear hHeld s0 s1 s2 s3 d0 d1 d2 d3 d4
      go_wp2_with fail
      refine (hK0 _).mono ?_; rintro r w2 ⟨rfl, rfl⟩
      go_wp2_with fail
      go_ret
      exact ⟨by rw [hres.out]; rfl, HHw.out⟩
    subst hn
    by_cases hm13 : m = 13
    · subst hm13
      have hR := ref07_Result 13 T
      have hb := aResult_le 13 T
      have HX := Lib.hid (show Z = aResult 13 T by rw [← HZ.out]; unfold singleT; simp [hT])
      generalize aResult 13 T = R at *
      have hK := ref01_Right R
      cases hk : kRight R
      · rw [hk] at hK
        have hR0 : R = 0 := by have := of_decide_eq_false hk; omega
        have hres := Lib.hid (HX.out.trans hR0)
        clear hT hk hb hR0 h8
        go_enter Tryd.func11, Tryd.ntmps11
        go_upto_region 5 with fail
        rw [← HW0.out]
        refine wp_region_held_drew (S := (fun w' => Below W0.heap.size W0 w')) (by kernel_rfl) ?_ (fun hHeld => ?_)
        · (try dsimp only); first | assumption | exact Below.alloc hHeld hHeld.size _ | exact (Below.refl _ _).drew | exact Below.drew (Below.refl _ _) | exact Below_drewN _ _ _ | exact Below.refl _ _ | (trace_state; fail)
        refine wpAnyH_take (i := 0) (oi := { dst := some 17, op := Op.load 37 (Operand.tmp 2), type := 37, pos := _, after := #[], guard := none }) (v := ?_) rfl (by kernel_rfl) (by kernel_rfl) (by kernel_rfl) (fun _ _ _ h => h) (Or.inl ⟨by rfl, ?_⟩) (by assumption) ?_
        rotate_left
        · intro wt hSw; (try dsimp only at hSw); have s0 := cellB hSw s0 z0; have s1 := cellB hSw s1 z0; have s2 := cellB hSw s2 z0; have s3 := cellB hSw s3 z0; have g4 := cellB hSw g4 z1; have d0 := cellB hSw d0 zb; have d1 := cellB hSw d1 zb; have d2 := cellB hSw d2 zb; have d3 := cellB hSw d3 zb; have d4 := cellB hSw d4 zb; first | (go_simp; done) | (go_simp; with_reducible rfl) | (trace_state; fail)
        try simp only [Act.put, List.setIfInBounds_toArray, List.set_cons_zero, List.set_cons_succ]
        refine wpAnyH_take (i := 1) (oi := { dst := some 18, op := Op.fieldAddr 30 (Operand.tmp 3) 4, type := 0, pos := _, after := #[], guard := none }) (v := ?_) rfl (by kernel_rfl) (by kernel_rfl) (by kernel_rfl) (fun _ _ _ h => h) (Or.inl ⟨by rfl, ?_⟩) (by assumption) ?_
        rotate_left
        · intro wt hSw; (try dsimp only at hSw); have s0 := cellB hSw s0 z0; have s1 := cellB hSw s1 z0; have s2 := cellB hSw s2 z0; have s3 := cellB hSw s3 z0; have g4 := cellB hSw g4 z1; have d0 := cellB hSw d0 zb; have d1 := cellB hSw d1 zb; have d2 := cellB hSw d2 zb; have d3 := cellB hSw d3 zb; have d4 := cellB hSw d4 zb; first | (go_simp; done) | (go_simp; with_reducible rfl) | (trace_state; fail)
        try simp only [Act.put, List.setIfInBounds_toArray, List.set_cons_zero, List.set_cons_succ]
        refine wpAnyH_take (i := 2) (oi := { dst := some 19, op := Op.load 28 (Operand.tmp 18), type := 28, pos := _, after := #[{ on := 1, ground := Ground.data }], guard := none }) (v := ?_) rfl (by kernel_rfl) (by kernel_rfl) (by kernel_rfl) (fun _ _ _ h => h) (Or.inl ⟨by rfl, ?_⟩) (by assumption) ?_
        rotate_left
        · intro wt hSw; (try dsimp only at hSw); have s0 := cellB hSw s0 z0; have s1 := cellB hSw s1 z0; have s2 := cellB hSw s2 z0; have s3 := cellB hSw s3 z0; have g4 := cellB hSw g4 z1; have d0 := cellB hSw d0 zb; have d1 := cellB hSw d1 zb; have d2 := cellB hSw d2 zb; have d3 := cellB hSw d3 zb; have d4 := cellB hSw d4 zb; first | (go_simp; done) | (go_simp; with_reducible rfl) | (trace_state; fail)
        try simp only [Act.put, List.setIfInBounds_toArray, List.set_cons_zero, List.set_cons_succ]
        refine wpAnyH_take (i := 3) (oi := { dst := some 20, op := Op.indexAddr 28 (Operand.tmp 19) (Operand.const (Value.int IntKind.i64 0)), type := 0, pos := _, after := #[{ on := 2, ground := Ground.data }], guard := none }) (v := ?_) rfl (by kernel_rfl) (by kernel_rfl) (by kernel_rfl) (fun _ _ _ h => h) (Or.inl ⟨by rfl, ?_⟩) (by assumption) ?_
        rotate_left
        · intro wt hSw; (try dsimp only at hSw); have s0 := cellB hSw s0 z0; have s1 := cellB hSw s1 z0; have s2 := cellB hSw s2 z0; have s3 := cellB hSw s3 z0; have g4 := cellB hSw g4 z1; have d0 := cellB hSw d0 zb; have d1 := cellB hSw d1 zb; have d2 := cellB hSw d2 zb; have d3 := cellB hSw d3 zb; have d4 := cellB hSw d4 zb; first | (go_simp; done) | (go_simp; with_reducible rfl) | (trace_state; fail)
        try simp only [Act.put, List.setIfInBounds_toArray, List.set_cons_zero, List.set_cons_succ]
        refine wpAnyH_take (i := 4) (oi := { dst := some 21, op := Op.load 30 (Operand.tmp 20), type := 30, pos := _, after := #[{ on := 3, ground := Ground.data }], guard := none }) (v := ?_) rfl (by kernel_rfl) (by kernel_rfl) (by kernel_rfl) (fun _ _ _ h => h) (Or.inl ⟨by rfl, ?_⟩) (by assumption) ?_
        rotate_left
        · intro wt hSw; (try dsimp only at hSw); have s0 := cellB hSw s0 z0; have s1 := cellB hSw s1 z0; have s2 := cellB hSw s2 z0; have s3 := cellB hSw s3 z0; have g4 := cellB hSw g4 z1; have d0 := cellB hSw d0 zb; have d1 := cellB hSw d1 zb; have d2 := cellB hSw d2 zb; have d3 := cellB hSw d3 zb; have d4 := cellB hSw d4 zb; first | (go_simp; done) | (go_simp; with_reducible rfl) | (trace_state; fail)
        try simp only [Act.put, List.setIfInBounds_toArray, List.set_cons_zero, List.set_cons_succ]
        refine wpAnyH_ready (rs := [5]) (by kernel_rfl) (by simp) ?_
        refine AllReadyH.cons (o := { dst := some 22, op := Op.call { callee := Callee.value (Operand.func 11), args := #[Operand.tmp 17, Operand.tmp 21], argTypes := #[37, 30] }, type := 3, pos := _, after := #[{ on := 0, ground := Ground.data }, { on := 4, ground := Ground.data }], guard := none }) rfl (fun K hK => ?_) AllReadyH.nil
        go_simp
        refine (HXc.out _ trivial hHeld).mono ?_; rintro r w2 ⟨rfl, hb⟩; have hHeld := hHeld.trans (hb.mono hHeld.size)
        go_wp2_with fail
        refine hK.out _ _ ?_ (fun hHeld => ?_)
        · (try dsimp only); first | assumption | exact Below.alloc hHeld hHeld.size _ | exact (Below.refl _ _).drew | exact Below.drew (Below.refl _ _) | exact Below_drewN _ _ _ | exact Below.refl _ _ | (trace_state; fail)
        clear hK K
        try simp only [Act.put, List.setIfInBounds_toArray, List.set_cons_zero, List.set_cons_succ]
        refine wpAnyH_take (i := 6) (oi := { dst := some 6, op := Op.assign (Operand.tmp 22), type := 3, pos := _, after := #[{ on := 5, ground := Ground.data }, { on := 5, ground := Ground.chain }, { on := 0, ground := Ground.phase }, { on := 1, ground := Ground.phase }, { on := 2, ground := Ground.phase }, { on := 3, ground := Ground.phase }, { on := 4, ground := Ground.phase }, { on := 5, ground := Ground.phase }], guard := none }) (v := ?_) rfl (by kernel_rfl) (by kernel_rfl) (by kernel_rfl) (fun _ _ _ h => h) (Or.inl ⟨by rfl, ?_⟩) (by assumption) ?_
        rotate_left
        · intro wt hSw; (try dsimp only at hSw); have s0 := cellB hSw s0 z0; have s1 := cellB hSw s1 z0; have s2 := cellB hSw s2 z0; have s3 := cellB hSw s3 z0; have g4 := cellB hSw g4 z1; have d0 := cellB hSw d0 zb; have d1 := cellB hSw d1 zb; have d2 := cellB hSw d2 zb; have d3 := cellB hSw d3 zb; have d4 := cellB hSw d4 zb; first | (go_simp; done) | (go_simp; with_reducible rfl) | (trace_state; fail)
        try simp only [Act.put, List.setIfInBounds_toArray, List.set_cons_zero, List.set_cons_succ]
        refine wpAnyH_done (by kernel_rfl) ?_ _
        have HHw := Lib.hid (HB0.out.trans (hHeld.mono HB0.out.size))
        have g0 := cellB hHeld g0 z1
        have g1 := cellB hHeld g1 z1
        have g2 := cellB hHeld g2 z1
        have g3 := cellB hHeld g3 z1
        have g4 := cellB hHeld g4 z1
        clear hHeld s0 s1 s2 s3 d0 d1 d2 d3 d4
        go_wp2_with fail
        refine (hR _).mono ?_; rintro r w2 ⟨rfl, rfl⟩
        go_wp2_with fail
        refine (hK _).mono ?_; rintro r w2 ⟨rfl, rfl⟩
        go_wp2_with fail
        go_ret
        exact ⟨by rw [hres.out]; rfl, HHw.out⟩
      · rw [hk] at hK
        have hres := HX
        clear hT hk hb h8
        go_enter Tryd.func11, Tryd.ntmps11
        go_upto_region 5 with fail
        rw [← HW0.out]
        refine wp_region_held_drew (S := (fun w' => Below W0.heap.size W0 w')) (by kernel_rfl) ?_ (fun hHeld => ?_)
        · (try dsimp only); first | assumption | exact Below.alloc hHeld hHeld.size _ | exact (Below.refl _ _).drew | exact Below.drew (Below.refl _ _) | exact Below_drewN _ _ _ | exact Below.refl _ _ | (trace_state; fail)
        refine wpAnyH_take (i := 0) (oi := { dst := some 17, op := Op.load 37 (Operand.tmp 2), type := 37, pos := _, after := #[], guard := none }) (v := ?_) rfl (by kernel_rfl) (by kernel_rfl) (by kernel_rfl) (fun _ _ _ h => h) (Or.inl ⟨by rfl, ?_⟩) (by assumption) ?_
        rotate_left
        · intro wt hSw; (try dsimp only at hSw); have s0 := cellB hSw s0 z0; have s1 := cellB hSw s1 z0; have s2 := cellB hSw s2 z0; have s3 := cellB hSw s3 z0; have g4 := cellB hSw g4 z1; have d0 := cellB hSw d0 zb; have d1 := cellB hSw d1 zb; have d2 := cellB hSw d2 zb; have d3 := cellB hSw d3 zb; have d4 := cellB hSw d4 zb; first | (go_simp; done) | (go_simp; with_reducible rfl) | (trace_state; fail)
        try simp only [Act.put, List.setIfInBounds_toArray, List.set_cons_zero, List.set_cons_succ]
        refine wpAnyH_take (i := 1) (oi := { dst := some 18, op := Op.fieldAddr 30 (Operand.tmp 3) 4, type := 0, pos := _, after := #[], guard := none }) (v := ?_) rfl (by kernel_rfl) (by kernel_rfl) (by kernel_rfl) (fun _ _ _ h => h) (Or.inl ⟨by rfl, ?_⟩) (by assumption) ?_
        rotate_left
        · intro wt hSw; (try dsimp only at hSw); have s0 := cellB hSw s0 z0; have s1 := cellB hSw s1 z0; have s2 := cellB hSw s2 z0; have s3 := cellB hSw s3 z0; have g4 := cellB hSw g4 z1; have d0 := cellB hSw d0 zb; have d1 := cellB hSw d1 zb; have d2 := cellB hSw d2 zb; have d3 := cellB hSw d3 zb; have d4 := cellB hSw d4 zb; first | (go_simp; done) | (go_simp; with_reducible rfl) | (trace_state; fail)
        try simp only [Act.put, List.setIfInBounds_toArray, List.set_cons_zero, List.set_cons_succ]
        refine wpAnyH_take (i := 2) (oi := { dst := some 19, op := Op.load 28 (Operand.tmp 18), type := 28, pos := _, after := #[{ on := 1, ground := Ground.data }], guard := none }) (v := ?_) rfl (by kernel_rfl) (by kernel_rfl) (by kernel_rfl) (fun _ _ _ h => h) (Or.inl ⟨by rfl, ?_⟩) (by assumption) ?_
        rotate_left
        · intro wt hSw; (try dsimp only at hSw); have s0 := cellB hSw s0 z0; have s1 := cellB hSw s1 z0; have s2 := cellB hSw s2 z0; have s3 := cellB hSw s3 z0; have g4 := cellB hSw g4 z1; have d0 := cellB hSw d0 zb; have d1 := cellB hSw d1 zb; have d2 := cellB hSw d2 zb; have d3 := cellB hSw d3 zb; have d4 := cellB hSw d4 zb; first | (go_simp; done) | (go_simp; with_reducible rfl) | (trace_state; fail)
        try simp only [Act.put, List.setIfInBounds_toArray, List.set_cons_zero, List.set_cons_succ]
        refine wpAnyH_take (i := 3) (oi := { dst := some 20, op := Op.indexAddr 28 (Operand.tmp 19) (Operand.const (Value.int IntKind.i64 0)), type := 0, pos := _, after := #[{ on := 2, ground := Ground.data }], guard := none }) (v := ?_) rfl (by kernel_rfl) (by kernel_rfl) (by kernel_rfl) (fun _ _ _ h => h) (Or.inl ⟨by rfl, ?_⟩) (by assumption) ?_
        rotate_left
        · intro wt hSw; (try dsimp only at hSw); have s0 := cellB hSw s0 z0; have s1 := cellB hSw s1 z0; have s2 := cellB hSw s2 z0; have s3 := cellB hSw s3 z0; have g4 := cellB hSw g4 z1; have d0 := cellB hSw d0 zb; have d1 := cellB hSw d1 zb; have d2 := cellB hSw d2 zb; have d3 := cellB hSw d3 zb; have d4 := cellB hSw d4 zb; first | (go_simp; done) | (go_simp; with_reducible rfl) | (trace_state; fail)
        try simp only [Act.put, List.setIfInBounds_toArray, List.set_cons_zero, List.set_cons_succ]
        refine wpAnyH_take (i := 4) (oi := { dst := some 21, op := Op.load 30 (Operand.tmp 20), type := 30, pos := _, after := #[{ on := 3, ground := Ground.data }], guard := none }) (v := ?_) rfl (by kernel_rfl) (by kernel_rfl) (by kernel_rfl) (fun _ _ _ h => h) (Or.inl ⟨by rfl, ?_⟩) (by assumption) ?_
        rotate_left
        · intro wt hSw; (try dsimp only at hSw); have s0 := cellB hSw s0 z0; have s1 := cellB hSw s1 z0; have s2 := cellB hSw s2 z0; have s3 := cellB hSw s3 z0; have g4 := cellB hSw g4 z1; have d0 := cellB hSw d0 zb; have d1 := cellB hSw d1 zb; have d2 := cellB hSw d2 zb; have d3 := cellB hSw d3 zb; have d4 := cellB hSw d4 zb; first | (go_simp; done) | (go_simp; with_reducible rfl) | (trace_state; fail)
        try simp only [Act.put, List.setIfInBounds_toArray, List.set_cons_zero, List.set_cons_succ]
        refine wpAnyH_ready (rs := [5]) (by kernel_rfl) (by simp) ?_
        refine AllReadyH.cons (o := { dst := some 22, op := Op.call { callee := Callee.value (Operand.func 11), args := #[Operand.tmp 17, Operand.tmp 21], argTypes := #[37, 30] }, type := 3, pos := _, after := #[{ on := 0, ground := Ground.data }, { on := 4, ground := Ground.data }], guard := none }) rfl (fun K hK => ?_) AllReadyH.nil
        go_simp
        refine (HXc.out _ trivial hHeld).mono ?_; rintro r w2 ⟨rfl, hb⟩; have hHeld := hHeld.trans (hb.mono hHeld.size)
        go_wp2_with fail
        refine hK.out _ _ ?_ (fun hHeld => ?_)
        · (try dsimp only); first | assumption | exact Below.alloc hHeld hHeld.size _ | exact (Below.refl _ _).drew | exact Below.drew (Below.refl _ _) | exact Below_drewN _ _ _ | exact Below.refl _ _ | (trace_state; fail)
        clear hK K
        try simp only [Act.put, List.setIfInBounds_toArray, List.set_cons_zero, List.set_cons_succ]
        refine wpAnyH_take (i := 6) (oi := { dst := some 6, op := Op.assign (Operand.tmp 22), type := 3, pos := _, after := #[{ on := 5, ground := Ground.data }, { on := 5, ground := Ground.chain }, { on := 0, ground := Ground.phase }, { on := 1, ground := Ground.phase }, { on := 2, ground := Ground.phase }, { on := 3, ground := Ground.phase }, { on := 4, ground := Ground.phase }, { on := 5, ground := Ground.phase }], guard := none }) (v := ?_) rfl (by kernel_rfl) (by kernel_rfl) (by kernel_rfl) (fun _ _ _ h => h) (Or.inl ⟨by rfl, ?_⟩) (by assumption) ?_
        rotate_left
        · intro wt hSw; (try dsimp only at hSw); have s0 := cellB hSw s0 z0; have s1 := cellB hSw s1 z0; have s2 := cellB hSw s2 z0; have s3 := cellB hSw s3 z0; have g4 := cellB hSw g4 z1; have d0 := cellB hSw d0 zb; have d1 := cellB hSw d1 zb; have d2 := cellB hSw d2 zb; have d3 := cellB hSw d3 zb; have d4 := cellB hSw d4 zb; first | (go_simp; done) | (go_simp; with_reducible rfl) | (trace_state; fail)
        try simp only [Act.put, List.setIfInBounds_toArray, List.set_cons_zero, List.set_cons_succ]
        refine wpAnyH_done (by kernel_rfl) ?_ _
        have HHw := Lib.hid (HB0.out.trans (hHeld.mono HB0.out.size))
        have g0 := cellB hHeld g0 z1
        have g1 := cellB hHeld g1 z1
        have g2 := cellB hHeld g2 z1
        have g3 := cellB hHeld g3 z1
        have g4 := cellB hHeld g4 z1
        clear hHeld s0 s1 s2 s3 d0 d1 d2 d3 d4
        go_wp2_with fail
        refine (hR _).mono ?_; rintro r w2 ⟨rfl, rfl⟩
        go_wp2_with fail
        refine (hK _).mono ?_; rintro r w2 ⟨rfl, rfl⟩
        go_wp2_with fail
        go_ret
        exact ⟨by rw [hres.out]; rfl, HHw.out⟩
    have em13 : (m == 13) = false := by simpa using hm13
    by_cases hm17 : m = 17
    · subst hm17
      have hR := ref07_Result 17 T
      have hb := aResult_le 17 T
      have HX := Lib.hid (show Z = aResult 17 T by rw [← HZ.out]; unfold singleT; simp [hT])
      generalize aResult 17 T = R at *
      have hK := ref01_Right R
      cases hk : kRight R
      · rw [hk] at hK
        have hR0 : R = 0 := by have := of_decide_eq_false hk; omega
        have hres := Lib.hid (HX.out.trans hR0)
        clear hT hk hb hR0 h8
        go_enter Tryd.func11, Tryd.ntmps11
        go_upto_region 5 with fail
        rw [← HW0.out]
        refine wp_region_held_drew (S := (fun w' => Below W0.heap.size W0 w')) (by kernel_rfl) ?_ (fun hHeld => ?_)
        · (try dsimp only); first | assumption | exact Below.alloc hHeld hHeld.size _ | exact (Below.refl _ _).drew | exact Below.drew (Below.refl _ _) | exact Below_drewN _ _ _ | exact Below.refl _ _ | (trace_state; fail)
        refine wpAnyH_take (i := 0) (oi := { dst := some 17, op := Op.load 37 (Operand.tmp 2), type := 37, pos := _, after := #[], guard := none }) (v := ?_) rfl (by kernel_rfl) (by kernel_rfl) (by kernel_rfl) (fun _ _ _ h => h) (Or.inl ⟨by rfl, ?_⟩) (by assumption) ?_
        rotate_left
        · intro wt hSw; (try dsimp only at hSw); have s0 := cellB hSw s0 z0; have s1 := cellB hSw s1 z0; have s2 := cellB hSw s2 z0; have s3 := cellB hSw s3 z0; have g4 := cellB hSw g4 z1; have d0 := cellB hSw d0 zb; have d1 := cellB hSw d1 zb; have d2 := cellB hSw d2 zb; have d3 := cellB hSw d3 zb; have d4 := cellB hSw d4 zb; first | (go_simp; done) | (go_simp; with_reducible rfl) | (trace_state; fail)
        try simp only [Act.put, List.setIfInBounds_toArray, List.set_cons_zero, List.set_cons_succ]
        refine wpAnyH_take (i := 1) (oi := { dst := some 18, op := Op.fieldAddr 30 (Operand.tmp 3) 4, type := 0, pos := _, after := #[], guard := none }) (v := ?_) rfl (by kernel_rfl) (by kernel_rfl) (by kernel_rfl) (fun _ _ _ h => h) (Or.inl ⟨by rfl, ?_⟩) (by assumption) ?_
        rotate_left
        · intro wt hSw; (try dsimp only at hSw); have s0 := cellB hSw s0 z0; have s1 := cellB hSw s1 z0; have s2 := cellB hSw s2 z0; have s3 := cellB hSw s3 z0; have g4 := cellB hSw g4 z1; have d0 := cellB hSw d0 zb; have d1 := cellB hSw d1 zb; have d2 := cellB hSw d2 zb; have d3 := cellB hSw d3 zb; have d4 := cellB hSw d4 zb; first | (go_simp; done) | (go_simp; with_reducible rfl) | (trace_state; fail)
        try simp only [Act.put, List.setIfInBounds_toArray, List.set_cons_zero, List.set_cons_succ]
        refine wpAnyH_take (i := 2) (oi := { dst := some 19, op := Op.load 28 (Operand.tmp 18), type := 28, pos := _, after := #[{ on := 1, ground := Ground.data }], guard := none }) (v := ?_) rfl (by kernel_rfl) (by kernel_rfl) (by kernel_rfl) (fun _ _ _ h => h) (Or.inl ⟨by rfl, ?_⟩) (by assumption) ?_
        rotate_left
        · intro wt hSw; (try dsimp only at hSw); have s0 := cellB hSw s0 z0; have s1 := cellB hSw s1 z0; have s2 := cellB hSw s2 z0; have s3 := cellB hSw s3 z0; have g4 := cellB hSw g4 z1; have d0 := cellB hSw d0 zb; have d1 := cellB hSw d1 zb; have d2 := cellB hSw d2 zb; have d3 := cellB hSw d3 zb; have d4 := cellB hSw d4 zb; first | (go_simp; done) | (go_simp; with_reducible rfl) | (trace_state; fail)
        try simp only [Act.put, List.setIfInBounds_toArray, List.set_cons_zero, List.set_cons_succ]
        refine wpAnyH_take (i := 3) (oi := { dst := some 20, op := Op.indexAddr 28 (Operand.tmp 19) (Operand.const (Value.int IntKind.i64 0)), type := 0, pos := _, after := #[{ on := 2, ground := Ground.data }], guard := none }) (v := ?_) rfl (by kernel_rfl) (by kernel_rfl) (by kernel_rfl) (fun _ _ _ h => h) (Or.inl ⟨by rfl, ?_⟩) (by assumption) ?_
        rotate_left
        · intro wt hSw; (try dsimp only at hSw); have s0 := cellB hSw s0 z0; have s1 := cellB hSw s1 z0; have s2 := cellB hSw s2 z0; have s3 := cellB hSw s3 z0; have g4 := cellB hSw g4 z1; have d0 := cellB hSw d0 zb; have d1 := cellB hSw d1 zb; have d2 := cellB hSw d2 zb; have d3 := cellB hSw d3 zb; have d4 := cellB hSw d4 zb; first | (go_simp; done) | (go_simp; with_reducible rfl) | (trace_state; fail)
        try simp only [Act.put, List.setIfInBounds_toArray, List.set_cons_zero, List.set_cons_succ]
        refine wpAnyH_take (i := 4) (oi := { dst := some 21, op := Op.load 30 (Operand.tmp 20), type := 30, pos := _, after := #[{ on := 3, ground := Ground.data }], guard := none }) (v := ?_) rfl (by kernel_rfl) (by kernel_rfl) (by kernel_rfl) (fun _ _ _ h => h) (Or.inl ⟨by rfl, ?_⟩) (by assumption) ?_
        rotate_left
        · intro wt hSw; (try dsimp only at hSw); have s0 := cellB hSw s0 z0; have s1 := cellB hSw s1 z0; have s2 := cellB hSw s2 z0; have s3 := cellB hSw s3 z0; have g4 := cellB hSw g4 z1; have d0 := cellB hSw d0 zb; have d1 := cellB hSw d1 zb; have d2 := cellB hSw d2 zb; have d3 := cellB hSw d3 zb; have d4 := cellB hSw d4 zb; first | (go_simp; done) | (go_simp; with_reducible rfl) | (trace_state; fail)
        try simp only [Act.put, List.setIfInBounds_toArray, List.set_cons_zero, List.set_cons_succ]
        refine wpAnyH_ready (rs := [5]) (by kernel_rfl) (by simp) ?_
        refine AllReadyH.cons (o := { dst := some 22, op := Op.call { callee := Callee.value (Operand.func 11), args := #[Operand.tmp 17, Operand.tmp 21], argTypes := #[37, 30] }, type := 3, pos := _, after := #[{ on := 0, ground := Ground.data }, { on := 4, ground := Ground.data }], guard := none }) rfl (fun K hK => ?_) AllReadyH.nil
        go_simp
        refine (HXc.out _ trivial hHeld).mono ?_; rintro r w2 ⟨rfl, hb⟩; have hHeld := hHeld.trans (hb.mono hHeld.size)
        go_wp2_with fail
        refine hK.out _ _ ?_ (fun hHeld => ?_)
        · (try dsimp only); first | assumption | exact Below.alloc hHeld hHeld.size _ | exact (Below.refl _ _).drew | exact Below.drew (Below.refl _ _) | exact Below_drewN _ _ _ | exact Below.refl _ _ | (trace_state; fail)
        clear hK K
        try simp only [Act.put, List.setIfInBounds_toArray, List.set_cons_zero, List.set_cons_succ]
        refine wpAnyH_take (i := 6) (oi := { dst := some 6, op := Op.assign (Operand.tmp 22), type := 3, pos := _, after := #[{ on := 5, ground := Ground.data }, { on := 5, ground := Ground.chain }, { on := 0, ground := Ground.phase }, { on := 1, ground := Ground.phase }, { on := 2, ground := Ground.phase }, { on := 3, ground := Ground.phase }, { on := 4, ground := Ground.phase }, { on := 5, ground := Ground.phase }], guard := none }) (v := ?_) rfl (by kernel_rfl) (by kernel_rfl) (by kernel_rfl) (fun _ _ _ h => h) (Or.inl ⟨by rfl, ?_⟩) (by assumption) ?_
        rotate_left
        · intro wt hSw; (try dsimp only at hSw); have s0 := cellB hSw s0 z0; have s1 := cellB hSw s1 z0; have s2 := cellB hSw s2 z0; have s3 := cellB hSw s3 z0; have g4 := cellB hSw g4 z1; have d0 := cellB hSw d0 zb; have d1 := cellB hSw d1 zb; have d2 := cellB hSw d2 zb; have d3 := cellB hSw d3 zb; have d4 := cellB hSw d4 zb; first | (go_simp; done) | (go_simp; with_reducible rfl) | (trace_state; fail)
        try simp only [Act.put, List.setIfInBounds_toArray, List.set_cons_zero, List.set_cons_succ]
        refine wpAnyH_done (by kernel_rfl) ?_ _
        have HHw := Lib.hid (HB0.out.trans (hHeld.mono HB0.out.size))
        have g0 := cellB hHeld g0 z1
        have g1 := cellB hHeld g1 z1
        have g2 := cellB hHeld g2 z1
        have g3 := cellB hHeld g3 z1
        have g4 := cellB hHeld g4 z1
        clear hHeld s0 s1 s2 s3 d0 d1 d2 d3 d4
        go_wp2_with fail
        refine (hR _).mono ?_; rintro r w2 ⟨rfl, rfl⟩
        go_wp2_with fail
        refine (hK _).mono ?_; rintro r w2 ⟨rfl, rfl⟩
        go_wp2_with fail
        go_ret
        exact ⟨by rw [hres.out]; rfl, HHw.out⟩
      · rw [hk] at hK
        have hres := HX
        clear hT hk hb h8
        go_enter Tryd.func11, Tryd.ntmps11
        go_upto_region 5 with fail
        rw [← HW0.out]
        refine wp_region_held_drew (S := (fun w' => Below W0.heap.size W0 w')) (by kernel_rfl) ?_ (fun hHeld => ?_)
        · (try dsimp only); first | assumption | exact Below.alloc hHeld hHeld.size _ | exact (Below.refl _ _).drew | exact Below.drew (Below.refl _ _) | exact Below_drewN _ _ _ | exact Below.refl _ _ | (trace_state; fail)
        refine wpAnyH_take (i := 0) (oi := { dst := some 17, op := Op.load 37 (Operand.tmp 2), type := 37, pos := _, after := #[], guard := none }) (v := ?_) rfl (by kernel_rfl) (by kernel_rfl) (by kernel_rfl) (fun _ _ _ h => h) (Or.inl ⟨by rfl, ?_⟩) (by assumption) ?_
        rotate_left
        · intro wt hSw; (try dsimp only at hSw); have s0 := cellB hSw s0 z0; have s1 := cellB hSw s1 z0; have s2 := cellB hSw s2 z0; have s3 := cellB hSw s3 z0; have g4 := cellB hSw g4 z1; have d0 := cellB hSw d0 zb; have d1 := cellB hSw d1 zb; have d2 := cellB hSw d2 zb; have d3 := cellB hSw d3 zb; have d4 := cellB hSw d4 zb; first | (go_simp; done) | (go_simp; with_reducible rfl) | (trace_state; fail)
        try simp only [Act.put, List.setIfInBounds_toArray, List.set_cons_zero, List.set_cons_succ]
        refine wpAnyH_take (i := 1) (oi := { dst := some 18, op := Op.fieldAddr 30 (Operand.tmp 3) 4, type := 0, pos := _, after := #[], guard := none }) (v := ?_) rfl (by kernel_rfl) (by kernel_rfl) (by kernel_rfl) (fun _ _ _ h => h) (Or.inl ⟨by rfl, ?_⟩) (by assumption) ?_
        rotate_left
        · intro wt hSw; (try dsimp only at hSw); have s0 := cellB hSw s0 z0; have s1 := cellB hSw s1 z0; have s2 := cellB hSw s2 z0; have s3 := cellB hSw s3 z0; have g4 := cellB hSw g4 z1; have d0 := cellB hSw d0 zb; have d1 := cellB hSw d1 zb; have d2 := cellB hSw d2 zb; have d3 := cellB hSw d3 zb; have d4 := cellB hSw d4 zb; first | (go_simp; done) | (go_simp; with_reducible rfl) | (trace_state; fail)
        try simp only [Act.put, List.setIfInBounds_toArray, List.set_cons_zero, List.set_cons_succ]
        refine wpAnyH_take (i := 2) (oi := { dst := some 19, op := Op.load 28 (Operand.tmp 18), type := 28, pos := _, after := #[{ on := 1, ground := Ground.data }], guard := none }) (v := ?_) rfl (by kernel_rfl) (by kernel_rfl) (by kernel_rfl) (fun _ _ _ h => h) (Or.inl ⟨by rfl, ?_⟩) (by assumption) ?_
        rotate_left
        · intro wt hSw; (try dsimp only at hSw); have s0 := cellB hSw s0 z0; have s1 := cellB hSw s1 z0; have s2 := cellB hSw s2 z0; have s3 := cellB hSw s3 z0; have g4 := cellB hSw g4 z1; have d0 := cellB hSw d0 zb; have d1 := cellB hSw d1 zb; have d2 := cellB hSw d2 zb; have d3 := cellB hSw d3 zb; have d4 := cellB hSw d4 zb; first | (go_simp; done) | (go_simp; with_reducible rfl) | (trace_state; fail)
        try simp only [Act.put, List.setIfInBounds_toArray, List.set_cons_zero, List.set_cons_succ]
        refine wpAnyH_take (i := 3) (oi := { dst := some 20, op := Op.indexAddr 28 (Operand.tmp 19) (Operand.const (Value.int IntKind.i64 0)), type := 0, pos := _, after := #[{ on := 2, ground := Ground.data }], guard := none }) (v := ?_) rfl (by kernel_rfl) (by kernel_rfl) (by kernel_rfl) (fun _ _ _ h => h) (Or.inl ⟨by rfl, ?_⟩) (by assumption) ?_
        rotate_left
        · intro wt hSw; (try dsimp only at hSw); have s0 := cellB hSw s0 z0; have s1 := cellB hSw s1 z0; have s2 := cellB hSw s2 z0; have s3 := cellB hSw s3 z0; have g4 := cellB hSw g4 z1; have d0 := cellB hSw d0 zb; have d1 := cellB hSw d1 zb; have d2 := cellB hSw d2 zb; have d3 := cellB hSw d3 zb; have d4 := cellB hSw d4 zb; first | (go_simp; done) | (go_simp; with_reducible rfl) | (trace_state; fail)
        try simp only [Act.put, List.setIfInBounds_toArray, List.set_cons_zero, List.set_cons_succ]
        refine wpAnyH_take (i := 4) (oi := { dst := some 21, op := Op.load 30 (Operand.tmp 20), type := 30, pos := _, after := #[{ on := 3, ground := Ground.data }], guard := none }) (v := ?_) rfl (by kernel_rfl) (by kernel_rfl) (by kernel_rfl) (fun _ _ _ h => h) (Or.inl ⟨by rfl, ?_⟩) (by assumption) ?_
        rotate_left
        · intro wt hSw; (try dsimp only at hSw); have s0 := cellB hSw s0 z0; have s1 := cellB hSw s1 z0; have s2 := cellB hSw s2 z0; have s3 := cellB hSw s3 z0; have g4 := cellB hSw g4 z1; have d0 := cellB hSw d0 zb; have d1 := cellB hSw d1 zb; have d2 := cellB hSw d2 zb; have d3 := cellB hSw d3 zb; have d4 := cellB hSw d4 zb; first | (go_simp; done) | (go_simp; with_reducible rfl) | (trace_state; fail)
        try simp only [Act.put, List.setIfInBounds_toArray, List.set_cons_zero, List.set_cons_succ]
        refine wpAnyH_ready (rs := [5]) (by kernel_rfl) (by simp) ?_
        refine AllReadyH.cons (o := { dst := some 22, op := Op.call { callee := Callee.value (Operand.func 11), args := #[Operand.tmp 17, Operand.tmp 21], argTypes := #[37, 30] }, type := 3, pos := _, after := #[{ on := 0, ground := Ground.data }, { on := 4, ground := Ground.data }], guard := none }) rfl (fun K hK => ?_) AllReadyH.nil
        go_simp
        refine (HXc.out _ trivial hHeld).mono ?_; rintro r w2 ⟨rfl, hb⟩; have hHeld := hHeld.trans (hb.mono hHeld.size)
        go_wp2_with fail
        refine hK.out _ _ ?_ (fun hHeld => ?_)
        · (try dsimp only); first | assumption | exact Below.alloc hHeld hHeld.size _ | exact (Below.refl _ _).drew | exact Below.drew (Below.refl _ _) | exact Below_drewN _ _ _ | exact Below.refl _ _ | (trace_state; fail)
        clear hK K
        try simp only [Act.put, List.setIfInBounds_toArray, List.set_cons_zero, List.set_cons_succ]
        refine wpAnyH_take (i := 6) (oi := { dst := some 6, op := Op.assign (Operand.tmp 22), type := 3, pos := _, after := #[{ on := 5, ground := Ground.data }, { on := 5, ground := Ground.chain }, { on := 0, ground := Ground.phase }, { on := 1, ground := Ground.phase }, { on := 2, ground := Ground.phase }, { on := 3, ground := Ground.phase }, { on := 4, ground := Ground.phase }, { on := 5, ground := Ground.phase }], guard := none }) (v := ?_) rfl (by kernel_rfl) (by kernel_rfl) (by kernel_rfl) (fun _ _ _ h => h) (Or.inl ⟨by rfl, ?_⟩) (by assumption) ?_
        rotate_left
        · intro wt hSw; (try dsimp only at hSw); have s0 := cellB hSw s0 z0; have s1 := cellB hSw s1 z0; have s2 := cellB hSw s2 z0; have s3 := cellB hSw s3 z0; have g4 := cellB hSw g4 z1; have d0 := cellB hSw d0 zb; have d1 := cellB hSw d1 zb; have d2 := cellB hSw d2 zb; have d3 := cellB hSw d3 zb; have d4 := cellB hSw d4 zb; first | (go_simp; done) | (go_simp; with_reducible rfl) | (trace_state; fail)
        try simp only [Act.put, List.setIfInBounds_toArray, List.set_cons_zero, List.set_cons_succ]
        refine wpAnyH_done (by kernel_rfl) ?_ _
        have HHw := Lib.hid (HB0.out.trans (hHeld.mono HB0.out.size))
        have g0 := cellB hHeld g0 z1
        have g1 := cellB hHeld g1 z1
        have g2 := cellB hHeld g2 z1
        have g3 := cellB hHeld g3 z1
        have g4 := cellB hHeld g4 z1
        clear hHeld s0 s1 s2 s3 d0 d1 d2 d3 d4
        go_wp2_with fail
        refine (hR _).mono ?_; rintro r w2 ⟨rfl, rfl⟩
        go_wp2_with fail
        refine (hK _).mono ?_; rintro r w2 ⟨rfl, rfl⟩
        go_wp2_with fail
        go_ret
        exact ⟨by rw [hres.out]; rfl, HHw.out⟩
    have em17 : (m == 17) = false := by simpa using hm17
    have hres := Lib.hid (show Z = 0 by rw [← HZ.out]; unfold singleT; simp [hT, hm13, hm17])
    clear hT hm13 hm17 h8
    go_enter Tryd.func11, Tryd.ntmps11
    go_upto_region 5 with fail
    rw [← HW0.out]
    refine wp_region_held_drew (S := (fun w' => Below W0.heap.size W0 w')) (by kernel_rfl) ?_ (fun hHeld => ?_)
    · (try dsimp only); first | assumption | exact Below.alloc hHeld hHeld.size _ | exact (Below.refl _ _).drew | exact Below.drew (Below.refl _ _) | exact Below_drewN _ _ _ | exact Below.refl _ _ | (trace_state; fail)
    refine wpAnyH_take (i := 0) (oi := { dst := some 17, op := Op.load 37 (Operand.tmp 2), type := 37, pos := _, after := #[], guard := none }) (v := ?_) rfl (by kernel_rfl) (by kernel_rfl) (by kernel_rfl) (fun _ _ _ h => h) (Or.inl ⟨by rfl, ?_⟩) (by assumption) ?_
    rotate_left
    · intro wt hSw; (try dsimp only at hSw); have s0 := cellB hSw s0 z0; have s1 := cellB hSw s1 z0; have s2 := cellB hSw s2 z0; have s3 := cellB hSw s3 z0; have g4 := cellB hSw g4 z1; have d0 := cellB hSw d0 zb; have d1 := cellB hSw d1 zb; have d2 := cellB hSw d2 zb; have d3 := cellB hSw d3 zb; have d4 := cellB hSw d4 zb; first | (go_simp; done) | (go_simp; with_reducible rfl) | (trace_state; fail)
    try simp only [Act.put, List.setIfInBounds_toArray, List.set_cons_zero, List.set_cons_succ]
    refine wpAnyH_take (i := 1) (oi := { dst := some 18, op := Op.fieldAddr 30 (Operand.tmp 3) 4, type := 0, pos := _, after := #[], guard := none }) (v := ?_) rfl (by kernel_rfl) (by kernel_rfl) (by kernel_rfl) (fun _ _ _ h => h) (Or.inl ⟨by rfl, ?_⟩) (by assumption) ?_
    rotate_left
    · intro wt hSw; (try dsimp only at hSw); have s0 := cellB hSw s0 z0; have s1 := cellB hSw s1 z0; have s2 := cellB hSw s2 z0; have s3 := cellB hSw s3 z0; have g4 := cellB hSw g4 z1; have d0 := cellB hSw d0 zb; have d1 := cellB hSw d1 zb; have d2 := cellB hSw d2 zb; have d3 := cellB hSw d3 zb; have d4 := cellB hSw d4 zb; first | (go_simp; done) | (go_simp; with_reducible rfl) | (trace_state; fail)
    try simp only [Act.put, List.setIfInBounds_toArray, List.set_cons_zero, List.set_cons_succ]
    refine wpAnyH_take (i := 2) (oi := { dst := some 19, op := Op.load 28 (Operand.tmp 18), type := 28, pos := _, after := #[{ on := 1, ground := Ground.data }], guard := none }) (v := ?_) rfl (by kernel_rfl) (by kernel_rfl) (by kernel_rfl) (fun _ _ _ h => h) (Or.inl ⟨by rfl, ?_⟩) (by assumption) ?_
    rotate_left
    · intro wt hSw; (try dsimp only at hSw); have s0 := cellB hSw s0 z0; have s1 := cellB hSw s1 z0; have s2 := cellB hSw s2 z0; have s3 := cellB hSw s3 z0; have g4 := cellB hSw g4 z1; have d0 := cellB hSw d0 zb; have d1 := cellB hSw d1 zb; have d2 := cellB hSw d2 zb; have d3 := cellB hSw d3 zb; have d4 := cellB hSw d4 zb; first | (go_simp; done) | (go_simp; with_reducible rfl) | (trace_state; fail)
    try simp only [Act.put, List.setIfInBounds_toArray, List.set_cons_zero, List.set_cons_succ]
    refine wpAnyH_take (i := 3) (oi := { dst := some 20, op := Op.indexAddr 28 (Operand.tmp 19) (Operand.const (Value.int IntKind.i64 0)), type := 0, pos := _, after := #[{ on := 2, ground := Ground.data }], guard := none }) (v := ?_) rfl (by kernel_rfl) (by kernel_rfl) (by kernel_rfl) (fun _ _ _ h => h) (Or.inl ⟨by rfl, ?_⟩) (by assumption) ?_
    rotate_left
    · intro wt hSw; (try dsimp only at hSw); have s0 := cellB hSw s0 z0; have s1 := cellB hSw s1 z0; have s2 := cellB hSw s2 z0; have s3 := cellB hSw s3 z0; have g4 := cellB hSw g4 z1; have d0 := cellB hSw d0 zb; have d1 := cellB hSw d1 zb; have d2 := cellB hSw d2 zb; have d3 := cellB hSw d3 zb; have d4 := cellB hSw d4 zb; first | (go_simp; done) | (go_simp; with_reducible rfl) | (trace_state; fail)
    try simp only [Act.put, List.setIfInBounds_toArray, List.set_cons_zero, List.set_cons_succ]
    refine wpAnyH_take (i := 4) (oi := { dst := some 21, op := Op.load 30 (Operand.tmp 20), type := 30, pos := _, after := #[{ on := 3, ground := Ground.data }], guard := none }) (v := ?_) rfl (by kernel_rfl) (by kernel_rfl) (by kernel_rfl) (fun _ _ _ h => h) (Or.inl ⟨by rfl, ?_⟩) (by assumption) ?_
    rotate_left
    · intro wt hSw; (try dsimp only at hSw); have s0 := cellB hSw s0 z0; have s1 := cellB hSw s1 z0; have s2 := cellB hSw s2 z0; have s3 := cellB hSw s3 z0; have g4 := cellB hSw g4 z1; have d0 := cellB hSw d0 zb; have d1 := cellB hSw d1 zb; have d2 := cellB hSw d2 zb; have d3 := cellB hSw d3 zb; have d4 := cellB hSw d4 zb; first | (go_simp; done) | (go_simp; with_reducible rfl) | (trace_state; fail)
    try simp only [Act.put, List.setIfInBounds_toArray, List.set_cons_zero, List.set_cons_succ]
    refine wpAnyH_ready (rs := [5]) (by kernel_rfl) (by simp) ?_
    refine AllReadyH.cons (o := { dst := some 22, op := Op.call { callee := Callee.value (Operand.func 11), args := #[Operand.tmp 17, Operand.tmp 21], argTypes := #[37, 30] }, type := 3, pos := _, after := #[{ on := 0, ground := Ground.data }, { on := 4, ground := Ground.data }], guard := none }) rfl (fun K hK => ?_) AllReadyH.nil
    go_simp
    refine (HXc.out _ trivial hHeld).mono ?_; rintro r w2 ⟨rfl, hb⟩; have hHeld := hHeld.trans (hb.mono hHeld.size)
    go_wp2_with fail
    refine hK.out _ _ ?_ (fun hHeld => ?_)
    · (try dsimp only); first | assumption | exact Below.alloc hHeld hHeld.size _ | exact (Below.refl _ _).drew | exact Below.drew (Below.refl _ _) | exact Below_drewN _ _ _ | exact Below.refl _ _ | (trace_state; fail)
    clear hK K
    try simp only [Act.put, List.setIfInBounds_toArray, List.set_cons_zero, List.set_cons_succ]
    refine wpAnyH_take (i := 6) (oi := { dst := some 6, op := Op.assign (Operand.tmp 22), type := 3, pos := _, after := #[{ on := 5, ground := Ground.data }, { on := 5, ground := Ground.chain }, { on := 0, ground := Ground.phase }, { on := 1, ground := Ground.phase }, { on := 2, ground := Ground.phase }, { on := 3, ground := Ground.phase }, { on := 4, ground := Ground.phase }, { on := 5, ground := Ground.phase }], guard := none }) (v := ?_) rfl (by kernel_rfl) (by kernel_rfl) (by kernel_rfl) (fun _ _ _ h => h) (Or.inl ⟨by rfl, ?_⟩) (by assumption) ?_
    rotate_left
    · intro wt hSw; (try dsimp only at hSw); have s0 := cellB hSw s0 z0; have s1 := cellB hSw s1 z0; have s2 := cellB hSw s2 z0; have s3 := cellB hSw s3 z0; have g4 := cellB hSw g4 z1; have d0 := cellB hSw d0 zb; have d1 := cellB hSw d1 zb; have d2 := cellB hSw d2 zb; have d3 := cellB hSw d3 zb; have d4 := cellB hSw d4 zb; first | (go_simp; done) | (go_simp; with_reducible rfl) | (trace_state; fail)
    try simp only [Act.put, List.setIfInBounds_toArray, List.set_cons_zero, List.set_cons_succ]
    refine wpAnyH_done (by kernel_rfl) ?_ _
    have HHw := Lib.hid (HB0.out.trans (hHeld.mono HB0.out.size))
    have g0 := cellB hHeld g0 z1
    have g1 := cellB hHeld g1 z1
    have g2 := cellB hHeld g2 z1
    have g3 := cellB hHeld g3 z1
    have g4 := cellB hHeld g4 z1
    clear hHeld s0 s1 s2 s3 d0 d1 d2 d3 d4
    go_wp2_with fail
    refine (hK0 _).mono ?_; rintro r w2 ⟨rfl, rfl⟩
    go_wp2_with fail
    go_ret
    exact ⟨by rw [hres.out]; rfl, HHw.out⟩
  have e6 : (op == 6) = false := by simpa using h6
  have e2 : (op == 2) = false := by simpa using o2
  have e4 : (op == 4) = false := by simpa using o4
  by_cases h1 : op = 1
  · subst h1
    have hres := Lib.hid (show Z = 0 by rw [← HZ.out]; unfold singleT; simp [hT])
    clear hT h8 h6 o2 o4
    go_enter Tryd.func11, Tryd.ntmps11
    go_upto_region 5 with fail
    rw [← HW0.out]
    refine wp_region_held_drew (S := (fun w' => Below W0.heap.size W0 w')) (by kernel_rfl) ?_ (fun hHeld => ?_)
    · (try dsimp only); first | assumption | exact Below.alloc hHeld hHeld.size _ | exact (Below.refl _ _).drew | exact Below.drew (Below.refl _ _) | exact Below_drewN _ _ _ | exact Below.refl _ _ | (trace_state; fail)
    refine wpAnyH_take (i := 0) (oi := { dst := some 17, op := Op.load 37 (Operand.tmp 2), type := 37, pos := _, after := #[], guard := none }) (v := ?_) rfl (by kernel_rfl) (by kernel_rfl) (by kernel_rfl) (fun _ _ _ h => h) (Or.inl ⟨by rfl, ?_⟩) (by assumption) ?_
    rotate_left
    · intro wt hSw; (try dsimp only at hSw); have s0 := cellB hSw s0 z0; have s1 := cellB hSw s1 z0; have s2 := cellB hSw s2 z0; have s3 := cellB hSw s3 z0; have g4 := cellB hSw g4 z1; have d0 := cellB hSw d0 zb; have d1 := cellB hSw d1 zb; have d2 := cellB hSw d2 zb; have d3 := cellB hSw d3 zb; have d4 := cellB hSw d4 zb; first | (go_simp; done) | (go_simp; with_reducible rfl) | (trace_state; fail)
    try simp only [Act.put, List.setIfInBounds_toArray, List.set_cons_zero, List.set_cons_succ]
    refine wpAnyH_take (i := 1) (oi := { dst := some 18, op := Op.fieldAddr 30 (Operand.tmp 3) 4, type := 0, pos := _, after := #[], guard := none }) (v := ?_) rfl (by kernel_rfl) (by kernel_rfl) (by kernel_rfl) (fun _ _ _ h => h) (Or.inl ⟨by rfl, ?_⟩) (by assumption) ?_
    rotate_left
    · intro wt hSw; (try dsimp only at hSw); have s0 := cellB hSw s0 z0; have s1 := cellB hSw s1 z0; have s2 := cellB hSw s2 z0; have s3 := cellB hSw s3 z0; have g4 := cellB hSw g4 z1; have d0 := cellB hSw d0 zb; have d1 := cellB hSw d1 zb; have d2 := cellB hSw d2 zb; have d3 := cellB hSw d3 zb; have d4 := cellB hSw d4 zb; first | (go_simp; done) | (go_simp; with_reducible rfl) | (trace_state; fail)
    try simp only [Act.put, List.setIfInBounds_toArray, List.set_cons_zero, List.set_cons_succ]
    refine wpAnyH_take (i := 2) (oi := { dst := some 19, op := Op.load 28 (Operand.tmp 18), type := 28, pos := _, after := #[{ on := 1, ground := Ground.data }], guard := none }) (v := ?_) rfl (by kernel_rfl) (by kernel_rfl) (by kernel_rfl) (fun _ _ _ h => h) (Or.inl ⟨by rfl, ?_⟩) (by assumption) ?_
    rotate_left
    · intro wt hSw; (try dsimp only at hSw); have s0 := cellB hSw s0 z0; have s1 := cellB hSw s1 z0; have s2 := cellB hSw s2 z0; have s3 := cellB hSw s3 z0; have g4 := cellB hSw g4 z1; have d0 := cellB hSw d0 zb; have d1 := cellB hSw d1 zb; have d2 := cellB hSw d2 zb; have d3 := cellB hSw d3 zb; have d4 := cellB hSw d4 zb; first | (go_simp; done) | (go_simp; with_reducible rfl) | (trace_state; fail)
    try simp only [Act.put, List.setIfInBounds_toArray, List.set_cons_zero, List.set_cons_succ]
    refine wpAnyH_take (i := 3) (oi := { dst := some 20, op := Op.indexAddr 28 (Operand.tmp 19) (Operand.const (Value.int IntKind.i64 0)), type := 0, pos := _, after := #[{ on := 2, ground := Ground.data }], guard := none }) (v := ?_) rfl (by kernel_rfl) (by kernel_rfl) (by kernel_rfl) (fun _ _ _ h => h) (Or.inl ⟨by rfl, ?_⟩) (by assumption) ?_
    rotate_left
    · intro wt hSw; (try dsimp only at hSw); have s0 := cellB hSw s0 z0; have s1 := cellB hSw s1 z0; have s2 := cellB hSw s2 z0; have s3 := cellB hSw s3 z0; have g4 := cellB hSw g4 z1; have d0 := cellB hSw d0 zb; have d1 := cellB hSw d1 zb; have d2 := cellB hSw d2 zb; have d3 := cellB hSw d3 zb; have d4 := cellB hSw d4 zb; first | (go_simp; done) | (go_simp; with_reducible rfl) | (trace_state; fail)
    try simp only [Act.put, List.setIfInBounds_toArray, List.set_cons_zero, List.set_cons_succ]
    refine wpAnyH_take (i := 4) (oi := { dst := some 21, op := Op.load 30 (Operand.tmp 20), type := 30, pos := _, after := #[{ on := 3, ground := Ground.data }], guard := none }) (v := ?_) rfl (by kernel_rfl) (by kernel_rfl) (by kernel_rfl) (fun _ _ _ h => h) (Or.inl ⟨by rfl, ?_⟩) (by assumption) ?_
    rotate_left
    · intro wt hSw; (try dsimp only at hSw); have s0 := cellB hSw s0 z0; have s1 := cellB hSw s1 z0; have s2 := cellB hSw s2 z0; have s3 := cellB hSw s3 z0; have g4 := cellB hSw g4 z1; have d0 := cellB hSw d0 zb; have d1 := cellB hSw d1 zb; have d2 := cellB hSw d2 zb; have d3 := cellB hSw d3 zb; have d4 := cellB hSw d4 zb; first | (go_simp; done) | (go_simp; with_reducible rfl) | (trace_state; fail)
    try simp only [Act.put, List.setIfInBounds_toArray, List.set_cons_zero, List.set_cons_succ]
    refine wpAnyH_ready (rs := [5]) (by kernel_rfl) (by simp) ?_
    refine AllReadyH.cons (o := { dst := some 22, op := Op.call { callee := Callee.value (Operand.func 11), args := #[Operand.tmp 17, Operand.tmp 21], argTypes := #[37, 30] }, type := 3, pos := _, after := #[{ on := 0, ground := Ground.data }, { on := 4, ground := Ground.data }], guard := none }) rfl (fun K hK => ?_) AllReadyH.nil
    go_simp
    refine (HXc.out _ trivial hHeld).mono ?_; rintro r w2 ⟨rfl, hb⟩; have hHeld := hHeld.trans (hb.mono hHeld.size)
    go_wp2_with fail
    refine hK.out _ _ ?_ (fun hHeld => ?_)
    · (try dsimp only); first | assumption | exact Below.alloc hHeld hHeld.size _ | exact (Below.refl _ _).drew | exact Below.drew (Below.refl _ _) | exact Below_drewN _ _ _ | exact Below.refl _ _ | (trace_state; fail)
    clear hK K
    try simp only [Act.put, List.setIfInBounds_toArray, List.set_cons_zero, List.set_cons_succ]
    refine wpAnyH_take (i := 6) (oi := { dst := some 6, op := Op.assign (Operand.tmp 22), type := 3, pos := _, after := #[{ on := 5, ground := Ground.data }, { on := 5, ground := Ground.chain }, { on := 0, ground := Ground.phase }, { on := 1, ground := Ground.phase }, { on := 2, ground := Ground.phase }, { on := 3, ground := Ground.phase }, { on := 4, ground := Ground.phase }, { on := 5, ground := Ground.phase }], guard := none }) (v := ?_) rfl (by kernel_rfl) (by kernel_rfl) (by kernel_rfl) (fun _ _ _ h => h) (Or.inl ⟨by rfl, ?_⟩) (by assumption) ?_
    rotate_left
    · intro wt hSw; (try dsimp only at hSw); have s0 := cellB hSw s0 z0; have s1 := cellB hSw s1 z0; have s2 := cellB hSw s2 z0; have s3 := cellB hSw s3 z0; have g4 := cellB hSw g4 z1; have d0 := cellB hSw d0 zb; have d1 := cellB hSw d1 zb; have d2 := cellB hSw d2 zb; have d3 := cellB hSw d3 zb; have d4 := cellB hSw d4 zb; first | (go_simp; done) | (go_simp; with_reducible rfl) | (trace_state; fail)
    try simp only [Act.put, List.setIfInBounds_toArray, List.set_cons_zero, List.set_cons_succ]
    refine wpAnyH_done (by kernel_rfl) ?_ _
    have HHw := Lib.hid (HB0.out.trans (hHeld.mono HB0.out.size))
    have g0 := cellB hHeld g0 z1
    have g1 := cellB hHeld g1 z1
    have g2 := cellB hHeld g2 z1
    have g3 := cellB hHeld g3 z1
    have g4 := cellB hHeld g4 z1
    clear hHeld s0 s1 s2 s3 d0 d1 d2 d3 d4
    go_wp2_with fail
    refine (hK0 _).mono ?_; rintro r w2 ⟨rfl, rfl⟩
    go_wp2_with fail
    go_ret
    exact ⟨by rw [hres.out]; rfl, HHw.out⟩
  have e1 : (op == 1) = false := by simpa using h1
  by_cases h3 : op = 3
  · subst h3
    have hres := Lib.hid (show Z = 0 by rw [← HZ.out]; unfold singleT; simp [hT])
    clear hT h8 h6 o2 o4
    go_enter Tryd.func11, Tryd.ntmps11
    go_upto_region 5 with fail
    rw [← HW0.out]
    refine wp_region_held_drew (S := (fun w' => Below W0.heap.size W0 w')) (by kernel_rfl) ?_ (fun hHeld => ?_)
    · (try dsimp only); first | assumption | exact Below.alloc hHeld hHeld.size _ | exact (Below.refl _ _).drew | exact Below.drew (Below.refl _ _) | exact Below_drewN _ _ _ | exact Below.refl _ _ | (trace_state; fail)
    refine wpAnyH_take (i := 0) (oi := { dst := some 17, op := Op.load 37 (Operand.tmp 2), type := 37, pos := _, after := #[], guard := none }) (v := ?_) rfl (by kernel_rfl) (by kernel_rfl) (by kernel_rfl) (fun _ _ _ h => h) (Or.inl ⟨by rfl, ?_⟩) (by assumption) ?_
    rotate_left
    · intro wt hSw; (try dsimp only at hSw); have s0 := cellB hSw s0 z0; have s1 := cellB hSw s1 z0; have s2 := cellB hSw s2 z0; have s3 := cellB hSw s3 z0; have g4 := cellB hSw g4 z1; have d0 := cellB hSw d0 zb; have d1 := cellB hSw d1 zb; have d2 := cellB hSw d2 zb; have d3 := cellB hSw d3 zb; have d4 := cellB hSw d4 zb; first | (go_simp; done) | (go_simp; with_reducible rfl) | (trace_state; fail)
    try simp only [Act.put, List.setIfInBounds_toArray, List.set_cons_zero, List.set_cons_succ]
    refine wpAnyH_take (i := 1) (oi := { dst := some 18, op := Op.fieldAddr 30 (Operand.tmp 3) 4, type := 0, pos := _, after := #[], guard := none }) (v := ?_) rfl (by kernel_rfl) (by kernel_rfl) (by kernel_rfl) (fun _ _ _ h => h) (Or.inl ⟨by rfl, ?_⟩) (by assumption) ?_
    rotate_left
    · intro wt hSw; (try dsimp only at hSw); have s0 := cellB hSw s0 z0; have s1 := cellB hSw s1 z0; have s2 := cellB hSw s2 z0; have s3 := cellB hSw s3 z0; have g4 := cellB hSw g4 z1; have d0 := cellB hSw d0 zb; have d1 := cellB hSw d1 zb; have d2 := cellB hSw d2 zb; have d3 := cellB hSw d3 zb; have d4 := cellB hSw d4 zb; first | (go_simp; done) | (go_simp; with_reducible rfl) | (trace_state; fail)
    try simp only [Act.put, List.setIfInBounds_toArray, List.set_cons_zero, List.set_cons_succ]
    refine wpAnyH_take (i := 2) (oi := { dst := some 19, op := Op.load 28 (Operand.tmp 18), type := 28, pos := _, after := #[{ on := 1, ground := Ground.data }], guard := none }) (v := ?_) rfl (by kernel_rfl) (by kernel_rfl) (by kernel_rfl) (fun _ _ _ h => h) (Or.inl ⟨by rfl, ?_⟩) (by assumption) ?_
    rotate_left
    · intro wt hSw; (try dsimp only at hSw); have s0 := cellB hSw s0 z0; have s1 := cellB hSw s1 z0; have s2 := cellB hSw s2 z0; have s3 := cellB hSw s3 z0; have g4 := cellB hSw g4 z1; have d0 := cellB hSw d0 zb; have d1 := cellB hSw d1 zb; have d2 := cellB hSw d2 zb; have d3 := cellB hSw d3 zb; have d4 := cellB hSw d4 zb; first | (go_simp; done) | (go_simp; with_reducible rfl) | (trace_state; fail)
    try simp only [Act.put, List.setIfInBounds_toArray, List.set_cons_zero, List.set_cons_succ]
    refine wpAnyH_take (i := 3) (oi := { dst := some 20, op := Op.indexAddr 28 (Operand.tmp 19) (Operand.const (Value.int IntKind.i64 0)), type := 0, pos := _, after := #[{ on := 2, ground := Ground.data }], guard := none }) (v := ?_) rfl (by kernel_rfl) (by kernel_rfl) (by kernel_rfl) (fun _ _ _ h => h) (Or.inl ⟨by rfl, ?_⟩) (by assumption) ?_
    rotate_left
    · intro wt hSw; (try dsimp only at hSw); have s0 := cellB hSw s0 z0; have s1 := cellB hSw s1 z0; have s2 := cellB hSw s2 z0; have s3 := cellB hSw s3 z0; have g4 := cellB hSw g4 z1; have d0 := cellB hSw d0 zb; have d1 := cellB hSw d1 zb; have d2 := cellB hSw d2 zb; have d3 := cellB hSw d3 zb; have d4 := cellB hSw d4 zb; first | (go_simp; done) | (go_simp; with_reducible rfl) | (trace_state; fail)
    try simp only [Act.put, List.setIfInBounds_toArray, List.set_cons_zero, List.set_cons_succ]
    refine wpAnyH_take (i := 4) (oi := { dst := some 21, op := Op.load 30 (Operand.tmp 20), type := 30, pos := _, after := #[{ on := 3, ground := Ground.data }], guard := none }) (v := ?_) rfl (by kernel_rfl) (by kernel_rfl) (by kernel_rfl) (fun _ _ _ h => h) (Or.inl ⟨by rfl, ?_⟩) (by assumption) ?_
    rotate_left
    · intro wt hSw; (try dsimp only at hSw); have s0 := cellB hSw s0 z0; have s1 := cellB hSw s1 z0; have s2 := cellB hSw s2 z0; have s3 := cellB hSw s3 z0; have g4 := cellB hSw g4 z1; have d0 := cellB hSw d0 zb; have d1 := cellB hSw d1 zb; have d2 := cellB hSw d2 zb; have d3 := cellB hSw d3 zb; have d4 := cellB hSw d4 zb; first | (go_simp; done) | (go_simp; with_reducible rfl) | (trace_state; fail)
    try simp only [Act.put, List.setIfInBounds_toArray, List.set_cons_zero, List.set_cons_succ]
    refine wpAnyH_ready (rs := [5]) (by kernel_rfl) (by simp) ?_
    refine AllReadyH.cons (o := { dst := some 22, op := Op.call { callee := Callee.value (Operand.func 11), args := #[Operand.tmp 17, Operand.tmp 21], argTypes := #[37, 30] }, type := 3, pos := _, after := #[{ on := 0, ground := Ground.data }, { on := 4, ground := Ground.data }], guard := none }) rfl (fun K hK => ?_) AllReadyH.nil
    go_simp
    refine (HXc.out _ trivial hHeld).mono ?_; rintro r w2 ⟨rfl, hb⟩; have hHeld := hHeld.trans (hb.mono hHeld.size)
    go_wp2_with fail
    refine hK.out _ _ ?_ (fun hHeld => ?_)
    · (try dsimp only); first | assumption | exact Below.alloc hHeld hHeld.size _ | exact (Below.refl _ _).drew | exact Below.drew (Below.refl _ _) | exact Below_drewN _ _ _ | exact Below.refl _ _ | (trace_state; fail)
    clear hK K
    try simp only [Act.put, List.setIfInBounds_toArray, List.set_cons_zero, List.set_cons_succ]
    refine wpAnyH_take (i := 6) (oi := { dst := some 6, op := Op.assign (Operand.tmp 22), type := 3, pos := _, after := #[{ on := 5, ground := Ground.data }, { on := 5, ground := Ground.chain }, { on := 0, ground := Ground.phase }, { on := 1, ground := Ground.phase }, { on := 2, ground := Ground.phase }, { on := 3, ground := Ground.phase }, { on := 4, ground := Ground.phase }, { on := 5, ground := Ground.phase }], guard := none }) (v := ?_) rfl (by kernel_rfl) (by kernel_rfl) (by kernel_rfl) (fun _ _ _ h => h) (Or.inl ⟨by rfl, ?_⟩) (by assumption) ?_
    rotate_left
    · intro wt hSw; (try dsimp only at hSw); have s0 := cellB hSw s0 z0; have s1 := cellB hSw s1 z0; have s2 := cellB hSw s2 z0; have s3 := cellB hSw s3 z0; have g4 := cellB hSw g4 z1; have d0 := cellB hSw d0 zb; have d1 := cellB hSw d1 zb; have d2 := cellB hSw d2 zb; have d3 := cellB hSw d3 zb; have d4 := cellB hSw d4 zb; first | (go_simp; done) | (go_simp; with_reducible rfl) | (trace_state; fail)
    try simp only [Act.put, List.setIfInBounds_toArray, List.set_cons_zero, List.set_cons_succ]
    refine wpAnyH_done (by kernel_rfl) ?_ _
    have HHw := Lib.hid (HB0.out.trans (hHeld.mono HB0.out.size))
    have g0 := cellB hHeld g0 z1
    have g1 := cellB hHeld g1 z1
    have g2 := cellB hHeld g2 z1
    have g3 := cellB hHeld g3 z1
    have g4 := cellB hHeld g4 z1
    clear hHeld s0 s1 s2 s3 d0 d1 d2 d3 d4
    go_wp2_with fail
    refine (hK0 _).mono ?_; rintro r w2 ⟨rfl, rfl⟩
    go_wp2_with fail
    go_ret
    exact ⟨by rw [hres.out]; rfl, HHw.out⟩
  have e3 : (op == 3) = false := by simpa using h3
  by_cases h5 : op = 5
  · subst h5
    have hres := Lib.hid (show Z = 0 by rw [← HZ.out]; unfold singleT; simp [hT])
    clear hT h8 h6 o2 o4
    go_enter Tryd.func11, Tryd.ntmps11
    go_upto_region 5 with fail
    rw [← HW0.out]
    refine wp_region_held_drew (S := (fun w' => Below W0.heap.size W0 w')) (by kernel_rfl) ?_ (fun hHeld => ?_)
    · (try dsimp only); first | assumption | exact Below.alloc hHeld hHeld.size _ | exact (Below.refl _ _).drew | exact Below.drew (Below.refl _ _) | exact Below_drewN _ _ _ | exact Below.refl _ _ | (trace_state; fail)
    refine wpAnyH_take (i := 0) (oi := { dst := some 17, op := Op.load 37 (Operand.tmp 2), type := 37, pos := _, after := #[], guard := none }) (v := ?_) rfl (by kernel_rfl) (by kernel_rfl) (by kernel_rfl) (fun _ _ _ h => h) (Or.inl ⟨by rfl, ?_⟩) (by assumption) ?_
    rotate_left
    · intro wt hSw; (try dsimp only at hSw); have s0 := cellB hSw s0 z0; have s1 := cellB hSw s1 z0; have s2 := cellB hSw s2 z0; have s3 := cellB hSw s3 z0; have g4 := cellB hSw g4 z1; have d0 := cellB hSw d0 zb; have d1 := cellB hSw d1 zb; have d2 := cellB hSw d2 zb; have d3 := cellB hSw d3 zb; have d4 := cellB hSw d4 zb; first | (go_simp; done) | (go_simp; with_reducible rfl) | (trace_state; fail)
    try simp only [Act.put, List.setIfInBounds_toArray, List.set_cons_zero, List.set_cons_succ]
    refine wpAnyH_take (i := 1) (oi := { dst := some 18, op := Op.fieldAddr 30 (Operand.tmp 3) 4, type := 0, pos := _, after := #[], guard := none }) (v := ?_) rfl (by kernel_rfl) (by kernel_rfl) (by kernel_rfl) (fun _ _ _ h => h) (Or.inl ⟨by rfl, ?_⟩) (by assumption) ?_
    rotate_left
    · intro wt hSw; (try dsimp only at hSw); have s0 := cellB hSw s0 z0; have s1 := cellB hSw s1 z0; have s2 := cellB hSw s2 z0; have s3 := cellB hSw s3 z0; have g4 := cellB hSw g4 z1; have d0 := cellB hSw d0 zb; have d1 := cellB hSw d1 zb; have d2 := cellB hSw d2 zb; have d3 := cellB hSw d3 zb; have d4 := cellB hSw d4 zb; first | (go_simp; done) | (go_simp; with_reducible rfl) | (trace_state; fail)
    try simp only [Act.put, List.setIfInBounds_toArray, List.set_cons_zero, List.set_cons_succ]
    refine wpAnyH_take (i := 2) (oi := { dst := some 19, op := Op.load 28 (Operand.tmp 18), type := 28, pos := _, after := #[{ on := 1, ground := Ground.data }], guard := none }) (v := ?_) rfl (by kernel_rfl) (by kernel_rfl) (by kernel_rfl) (fun _ _ _ h => h) (Or.inl ⟨by rfl, ?_⟩) (by assumption) ?_
    rotate_left
    · intro wt hSw; (try dsimp only at hSw); have s0 := cellB hSw s0 z0; have s1 := cellB hSw s1 z0; have s2 := cellB hSw s2 z0; have s3 := cellB hSw s3 z0; have g4 := cellB hSw g4 z1; have d0 := cellB hSw d0 zb; have d1 := cellB hSw d1 zb; have d2 := cellB hSw d2 zb; have d3 := cellB hSw d3 zb; have d4 := cellB hSw d4 zb; first | (go_simp; done) | (go_simp; with_reducible rfl) | (trace_state; fail)
    try simp only [Act.put, List.setIfInBounds_toArray, List.set_cons_zero, List.set_cons_succ]
    refine wpAnyH_take (i := 3) (oi := { dst := some 20, op := Op.indexAddr 28 (Operand.tmp 19) (Operand.const (Value.int IntKind.i64 0)), type := 0, pos := _, after := #[{ on := 2, ground := Ground.data }], guard := none }) (v := ?_) rfl (by kernel_rfl) (by kernel_rfl) (by kernel_rfl) (fun _ _ _ h => h) (Or.inl ⟨by rfl, ?_⟩) (by assumption) ?_
    rotate_left
    · intro wt hSw; (try dsimp only at hSw); have s0 := cellB hSw s0 z0; have s1 := cellB hSw s1 z0; have s2 := cellB hSw s2 z0; have s3 := cellB hSw s3 z0; have g4 := cellB hSw g4 z1; have d0 := cellB hSw d0 zb; have d1 := cellB hSw d1 zb; have d2 := cellB hSw d2 zb; have d3 := cellB hSw d3 zb; have d4 := cellB hSw d4 zb; first | (go_simp; done) | (go_simp; with_reducible rfl) | (trace_state; fail)
    try simp only [Act.put, List.setIfInBounds_toArray, List.set_cons_zero, List.set_cons_succ]
    refine wpAnyH_take (i := 4) (oi := { dst := some 21, op := Op.load 30 (Operand.tmp 20), type := 30, pos := _, after := #[{ on := 3, ground := Ground.data }], guard := none }) (v := ?_) rfl (by kernel_rfl) (by kernel_rfl) (by kernel_rfl) (fun _ _ _ h => h) (Or.inl ⟨by rfl, ?_⟩) (by assumption) ?_
    rotate_left
    · intro wt hSw; (try dsimp only at hSw); have s0 := cellB hSw s0 z0; have s1 := cellB hSw s1 z0; have s2 := cellB hSw s2 z0; have s3 := cellB hSw s3 z0; have g4 := cellB hSw g4 z1; have d0 := cellB hSw d0 zb; have d1 := cellB hSw d1 zb; have d2 := cellB hSw d2 zb; have d3 := cellB hSw d3 zb; have d4 := cellB hSw d4 zb; first | (go_simp; done) | (go_simp; with_reducible rfl) | (trace_state; fail)
    try simp only [Act.put, List.setIfInBounds_toArray, List.set_cons_zero, List.set_cons_succ]
    refine wpAnyH_ready (rs := [5]) (by kernel_rfl) (by simp) ?_
    refine AllReadyH.cons (o := { dst := some 22, op := Op.call { callee := Callee.value (Operand.func 11), args := #[Operand.tmp 17, Operand.tmp 21], argTypes := #[37, 30] }, type := 3, pos := _, after := #[{ on := 0, ground := Ground.data }, { on := 4, ground := Ground.data }], guard := none }) rfl (fun K hK => ?_) AllReadyH.nil
    go_simp
    refine (HXc.out _ trivial hHeld).mono ?_; rintro r w2 ⟨rfl, hb⟩; have hHeld := hHeld.trans (hb.mono hHeld.size)
    go_wp2_with fail
    refine hK.out _ _ ?_ (fun hHeld => ?_)
    · (try dsimp only); first | assumption | exact Below.alloc hHeld hHeld.size _ | exact (Below.refl _ _).drew | exact Below.drew (Below.refl _ _) | exact Below_drewN _ _ _ | exact Below.refl _ _ | (trace_state; fail)
    clear hK K
    try simp only [Act.put, List.setIfInBounds_toArray, List.set_cons_zero, List.set_cons_succ]
    refine wpAnyH_take (i := 6) (oi := { dst := some 6, op := Op.assign (Operand.tmp 22), type := 3, pos := _, after := #[{ on := 5, ground := Ground.data }, { on := 5, ground := Ground.chain }, { on := 0, ground := Ground.phase }, { on := 1, ground := Ground.phase }, { on := 2, ground := Ground.phase }, { on := 3, ground := Ground.phase }, { on := 4, ground := Ground.phase }, { on := 5, ground := Ground.phase }], guard := none }) (v := ?_) rfl (by kernel_rfl) (by kernel_rfl) (by kernel_rfl) (fun _ _ _ h => h) (Or.inl ⟨by rfl, ?_⟩) (by assumption) ?_
    rotate_left
    · intro wt hSw; (try dsimp only at hSw); have s0 := cellB hSw s0 z0; have s1 := cellB hSw s1 z0; have s2 := cellB hSw s2 z0; have s3 := cellB hSw s3 z0; have g4 := cellB hSw g4 z1; have d0 := cellB hSw d0 zb; have d1 := cellB hSw d1 zb; have d2 := cellB hSw d2 zb; have d3 := cellB hSw d3 zb; have d4 := cellB hSw d4 zb; first | (go_simp; done) | (go_simp; with_reducible rfl) | (trace_state; fail)
    try simp only [Act.put, List.setIfInBounds_toArray, List.set_cons_zero, List.set_cons_succ]
    refine wpAnyH_done (by kernel_rfl) ?_ _
    have HHw := Lib.hid (HB0.out.trans (hHeld.mono HB0.out.size))
    have g0 := cellB hHeld g0 z1
    have g1 := cellB hHeld g1 z1
    have g2 := cellB hHeld g2 z1
    have g3 := cellB hHeld g3 z1
    have g4 := cellB hHeld g4 z1
    clear hHeld s0 s1 s2 s3 d0 d1 d2 d3 d4
    go_wp2_with fail
    refine (hK0 _).mono ?_; rintro r w2 ⟨rfl, rfl⟩
    go_wp2_with fail
    go_ret
    exact ⟨by rw [hres.out]; rfl, HHw.out⟩
  have e5 : (op == 5) = false := by simpa using h5
  by_cases h7 : op = 7
  · subst h7
    have hres := Lib.hid (show Z = 0 by rw [← HZ.out]; unfold singleT; simp [hT])
    clear hT h8 h6 o2 o4
    go_enter Tryd.func11, Tryd.ntmps11
    go_upto_region 5 with fail
    rw [← HW0.out]
    refine wp_region_held_drew (S := (fun w' => Below W0.heap.size W0 w')) (by kernel_rfl) ?_ (fun hHeld => ?_)
    · (try dsimp only); first | assumption | exact Below.alloc hHeld hHeld.size _ | exact (Below.refl _ _).drew | exact Below.drew (Below.refl _ _) | exact Below_drewN _ _ _ | exact Below.refl _ _ | (trace_state; fail)
    refine wpAnyH_take (i := 0) (oi := { dst := some 17, op := Op.load 37 (Operand.tmp 2), type := 37, pos := _, after := #[], guard := none }) (v := ?_) rfl (by kernel_rfl) (by kernel_rfl) (by kernel_rfl) (fun _ _ _ h => h) (Or.inl ⟨by rfl, ?_⟩) (by assumption) ?_
    rotate_left
    · intro wt hSw; (try dsimp only at hSw); have s0 := cellB hSw s0 z0; have s1 := cellB hSw s1 z0; have s2 := cellB hSw s2 z0; have s3 := cellB hSw s3 z0; have g4 := cellB hSw g4 z1; have d0 := cellB hSw d0 zb; have d1 := cellB hSw d1 zb; have d2 := cellB hSw d2 zb; have d3 := cellB hSw d3 zb; have d4 := cellB hSw d4 zb; first | (go_simp; done) | (go_simp; with_reducible rfl) | (trace_state; fail)
    try simp only [Act.put, List.setIfInBounds_toArray, List.set_cons_zero, List.set_cons_succ]
    refine wpAnyH_take (i := 1) (oi := { dst := some 18, op := Op.fieldAddr 30 (Operand.tmp 3) 4, type := 0, pos := _, after := #[], guard := none }) (v := ?_) rfl (by kernel_rfl) (by kernel_rfl) (by kernel_rfl) (fun _ _ _ h => h) (Or.inl ⟨by rfl, ?_⟩) (by assumption) ?_
    rotate_left
    · intro wt hSw; (try dsimp only at hSw); have s0 := cellB hSw s0 z0; have s1 := cellB hSw s1 z0; have s2 := cellB hSw s2 z0; have s3 := cellB hSw s3 z0; have g4 := cellB hSw g4 z1; have d0 := cellB hSw d0 zb; have d1 := cellB hSw d1 zb; have d2 := cellB hSw d2 zb; have d3 := cellB hSw d3 zb; have d4 := cellB hSw d4 zb; first | (go_simp; done) | (go_simp; with_reducible rfl) | (trace_state; fail)
    try simp only [Act.put, List.setIfInBounds_toArray, List.set_cons_zero, List.set_cons_succ]
    refine wpAnyH_take (i := 2) (oi := { dst := some 19, op := Op.load 28 (Operand.tmp 18), type := 28, pos := _, after := #[{ on := 1, ground := Ground.data }], guard := none }) (v := ?_) rfl (by kernel_rfl) (by kernel_rfl) (by kernel_rfl) (fun _ _ _ h => h) (Or.inl ⟨by rfl, ?_⟩) (by assumption) ?_
    rotate_left
    · intro wt hSw; (try dsimp only at hSw); have s0 := cellB hSw s0 z0; have s1 := cellB hSw s1 z0; have s2 := cellB hSw s2 z0; have s3 := cellB hSw s3 z0; have g4 := cellB hSw g4 z1; have d0 := cellB hSw d0 zb; have d1 := cellB hSw d1 zb; have d2 := cellB hSw d2 zb; have d3 := cellB hSw d3 zb; have d4 := cellB hSw d4 zb; first | (go_simp; done) | (go_simp; with_reducible rfl) | (trace_state; fail)
    try simp only [Act.put, List.setIfInBounds_toArray, List.set_cons_zero, List.set_cons_succ]
    refine wpAnyH_take (i := 3) (oi := { dst := some 20, op := Op.indexAddr 28 (Operand.tmp 19) (Operand.const (Value.int IntKind.i64 0)), type := 0, pos := _, after := #[{ on := 2, ground := Ground.data }], guard := none }) (v := ?_) rfl (by kernel_rfl) (by kernel_rfl) (by kernel_rfl) (fun _ _ _ h => h) (Or.inl ⟨by rfl, ?_⟩) (by assumption) ?_
    rotate_left
    · intro wt hSw; (try dsimp only at hSw); have s0 := cellB hSw s0 z0; have s1 := cellB hSw s1 z0; have s2 := cellB hSw s2 z0; have s3 := cellB hSw s3 z0; have g4 := cellB hSw g4 z1; have d0 := cellB hSw d0 zb; have d1 := cellB hSw d1 zb; have d2 := cellB hSw d2 zb; have d3 := cellB hSw d3 zb; have d4 := cellB hSw d4 zb; first | (go_simp; done) | (go_simp; with_reducible rfl) | (trace_state; fail)
    try simp only [Act.put, List.setIfInBounds_toArray, List.set_cons_zero, List.set_cons_succ]
    refine wpAnyH_take (i := 4) (oi := { dst := some 21, op := Op.load 30 (Operand.tmp 20), type := 30, pos := _, after := #[{ on := 3, ground := Ground.data }], guard := none }) (v := ?_) rfl (by kernel_rfl) (by kernel_rfl) (by kernel_rfl) (fun _ _ _ h => h) (Or.inl ⟨by rfl, ?_⟩) (by assumption) ?_
    rotate_left
    · intro wt hSw; (try dsimp only at hSw); have s0 := cellB hSw s0 z0; have s1 := cellB hSw s1 z0; have s2 := cellB hSw s2 z0; have s3 := cellB hSw s3 z0; have g4 := cellB hSw g4 z1; have d0 := cellB hSw d0 zb; have d1 := cellB hSw d1 zb; have d2 := cellB hSw d2 zb; have d3 := cellB hSw d3 zb; have d4 := cellB hSw d4 zb; first | (go_simp; done) | (go_simp; with_reducible rfl) | (trace_state; fail)
    try simp only [Act.put, List.setIfInBounds_toArray, List.set_cons_zero, List.set_cons_succ]
    refine wpAnyH_ready (rs := [5]) (by kernel_rfl) (by simp) ?_
    refine AllReadyH.cons (o := { dst := some 22, op := Op.call { callee := Callee.value (Operand.func 11), args := #[Operand.tmp 17, Operand.tmp 21], argTypes := #[37, 30] }, type := 3, pos := _, after := #[{ on := 0, ground := Ground.data }, { on := 4, ground := Ground.data }], guard := none }) rfl (fun K hK => ?_) AllReadyH.nil
    go_simp
    refine (HXc.out _ trivial hHeld).mono ?_; rintro r w2 ⟨rfl, hb⟩; have hHeld := hHeld.trans (hb.mono hHeld.size)
    go_wp2_with fail
    refine hK.out _ _ ?_ (fun hHeld => ?_)
    · (try dsimp only); first | assumption | exact Below.alloc hHeld hHeld.size _ | exact (Below.refl _ _).drew | exact Below.drew (Below.refl _ _) | exact Below_drewN _ _ _ | exact Below.refl _ _ | (trace_state; fail)
    clear hK K
    try simp only [Act.put, List.setIfInBounds_toArray, List.set_cons_zero, List.set_cons_succ]
    refine wpAnyH_take (i := 6) (oi := { dst := some 6, op := Op.assign (Operand.tmp 22), type := 3, pos := _, after := #[{ on := 5, ground := Ground.data }, { on := 5, ground := Ground.chain }, { on := 0, ground := Ground.phase }, { on := 1, ground := Ground.phase }, { on := 2, ground := Ground.phase }, { on := 3, ground := Ground.phase }, { on := 4, ground := Ground.phase }, { on := 5, ground := Ground.phase }], guard := none }) (v := ?_) rfl (by kernel_rfl) (by kernel_rfl) (by kernel_rfl) (fun _ _ _ h => h) (Or.inl ⟨by rfl, ?_⟩) (by assumption) ?_
    rotate_left
    · intro wt hSw; (try dsimp only at hSw); have s0 := cellB hSw s0 z0; have s1 := cellB hSw s1 z0; have s2 := cellB hSw s2 z0; have s3 := cellB hSw s3 z0; have g4 := cellB hSw g4 z1; have d0 := cellB hSw d0 zb; have d1 := cellB hSw d1 zb; have d2 := cellB hSw d2 zb; have d3 := cellB hSw d3 zb; have d4 := cellB hSw d4 zb; first | (go_simp; done) | (go_simp; with_reducible rfl) | (trace_state; fail)
    try simp only [Act.put, List.setIfInBounds_toArray, List.set_cons_zero, List.set_cons_succ]
    refine wpAnyH_done (by kernel_rfl) ?_ _
    have HHw := Lib.hid (HB0.out.trans (hHeld.mono HB0.out.size))
    have g0 := cellB hHeld g0 z1
    have g1 := cellB hHeld g1 z1
    have g2 := cellB hHeld g2 z1
    have g3 := cellB hHeld g3 z1
    have g4 := cellB hHeld g4 z1
    clear hHeld s0 s1 s2 s3 d0 d1 d2 d3 d4
    go_wp2_with fail
    refine (hK0 _).mono ?_; rintro r w2 ⟨rfl, rfl⟩
    go_wp2_with fail
    go_ret
    exact ⟨by rw [hres.out]; rfl, HHw.out⟩
  have e7 : (op == 7) = false := by simpa using h7
  have hres := Lib.hid (show Z = 0 by rw [← HZ.out]; unfold singleT; simp [hT, h8, h6, o4])
  clear hT h8 h6 o2 o4 h1 h3 h5 h7
  go_enter Tryd.func11, Tryd.ntmps11
  go_upto_region 5 with fail
  rw [← HW0.out]
  refine wp_region_held_drew (S := (fun w' => Below W0.heap.size W0 w')) (by kernel_rfl) ?_ (fun hHeld => ?_)
  · (try dsimp only); first | assumption | exact Below.alloc hHeld hHeld.size _ | exact (Below.refl _ _).drew | exact Below.drew (Below.refl _ _) | exact Below_drewN _ _ _ | exact Below.refl _ _ | (trace_state; fail)
  refine wpAnyH_take (i := 0) (oi := { dst := some 17, op := Op.load 37 (Operand.tmp 2), type := 37, pos := _, after := #[], guard := none }) (v := ?_) rfl (by kernel_rfl) (by kernel_rfl) (by kernel_rfl) (fun _ _ _ h => h) (Or.inl ⟨by rfl, ?_⟩) (by assumption) ?_
  rotate_left
  · intro wt hSw; (try dsimp only at hSw); have s0 := cellB hSw s0 z0; have s1 := cellB hSw s1 z0; have s2 := cellB hSw s2 z0; have s3 := cellB hSw s3 z0; have g4 := cellB hSw g4 z1; have d0 := cellB hSw d0 zb; have d1 := cellB hSw d1 zb; have d2 := cellB hSw d2 zb; have d3 := cellB hSw d3 zb; have d4 := cellB hSw d4 zb; first | (go_simp; done) | (go_simp; with_reducible rfl) | (trace_state; fail)
  try simp only [Act.put, List.setIfInBounds_toArray, List.set_cons_zero, List.set_cons_succ]
  refine wpAnyH_take (i := 1) (oi := { dst := some 18, op := Op.fieldAddr 30 (Operand.tmp 3) 4, type := 0, pos := _, after := #[], guard := none }) (v := ?_) rfl (by kernel_rfl) (by kernel_rfl) (by kernel_rfl) (fun _ _ _ h => h) (Or.inl ⟨by rfl, ?_⟩) (by assumption) ?_
  rotate_left
  · intro wt hSw; (try dsimp only at hSw); have s0 := cellB hSw s0 z0; have s1 := cellB hSw s1 z0; have s2 := cellB hSw s2 z0; have s3 := cellB hSw s3 z0; have g4 := cellB hSw g4 z1; have d0 := cellB hSw d0 zb; have d1 := cellB hSw d1 zb; have d2 := cellB hSw d2 zb; have d3 := cellB hSw d3 zb; have d4 := cellB hSw d4 zb; first | (go_simp; done) | (go_simp; with_reducible rfl) | (trace_state; fail)
  try simp only [Act.put, List.setIfInBounds_toArray, List.set_cons_zero, List.set_cons_succ]
  refine wpAnyH_take (i := 2) (oi := { dst := some 19, op := Op.load 28 (Operand.tmp 18), type := 28, pos := _, after := #[{ on := 1, ground := Ground.data }], guard := none }) (v := ?_) rfl (by kernel_rfl) (by kernel_rfl) (by kernel_rfl) (fun _ _ _ h => h) (Or.inl ⟨by rfl, ?_⟩) (by assumption) ?_
  rotate_left
  · intro wt hSw; (try dsimp only at hSw); have s0 := cellB hSw s0 z0; have s1 := cellB hSw s1 z0; have s2 := cellB hSw s2 z0; have s3 := cellB hSw s3 z0; have g4 := cellB hSw g4 z1; have d0 := cellB hSw d0 zb; have d1 := cellB hSw d1 zb; have d2 := cellB hSw d2 zb; have d3 := cellB hSw d3 zb; have d4 := cellB hSw d4 zb; first | (go_simp; done) | (go_simp; with_reducible rfl) | (trace_state; fail)
  try simp only [Act.put, List.setIfInBounds_toArray, List.set_cons_zero, List.set_cons_succ]
  refine wpAnyH_take (i := 3) (oi := { dst := some 20, op := Op.indexAddr 28 (Operand.tmp 19) (Operand.const (Value.int IntKind.i64 0)), type := 0, pos := _, after := #[{ on := 2, ground := Ground.data }], guard := none }) (v := ?_) rfl (by kernel_rfl) (by kernel_rfl) (by kernel_rfl) (fun _ _ _ h => h) (Or.inl ⟨by rfl, ?_⟩) (by assumption) ?_
  rotate_left
  · intro wt hSw; (try dsimp only at hSw); have s0 := cellB hSw s0 z0; have s1 := cellB hSw s1 z0; have s2 := cellB hSw s2 z0; have s3 := cellB hSw s3 z0; have g4 := cellB hSw g4 z1; have d0 := cellB hSw d0 zb; have d1 := cellB hSw d1 zb; have d2 := cellB hSw d2 zb; have d3 := cellB hSw d3 zb; have d4 := cellB hSw d4 zb; first | (go_simp; done) | (go_simp; with_reducible rfl) | (trace_state; fail)
  try simp only [Act.put, List.setIfInBounds_toArray, List.set_cons_zero, List.set_cons_succ]
  refine wpAnyH_take (i := 4) (oi := { dst := some 21, op := Op.load 30 (Operand.tmp 20), type := 30, pos := _, after := #[{ on := 3, ground := Ground.data }], guard := none }) (v := ?_) rfl (by kernel_rfl) (by kernel_rfl) (by kernel_rfl) (fun _ _ _ h => h) (Or.inl ⟨by rfl, ?_⟩) (by assumption) ?_
  rotate_left
  · intro wt hSw; (try dsimp only at hSw); have s0 := cellB hSw s0 z0; have s1 := cellB hSw s1 z0; have s2 := cellB hSw s2 z0; have s3 := cellB hSw s3 z0; have g4 := cellB hSw g4 z1; have d0 := cellB hSw d0 zb; have d1 := cellB hSw d1 zb; have d2 := cellB hSw d2 zb; have d3 := cellB hSw d3 zb; have d4 := cellB hSw d4 zb; first | (go_simp; done) | (go_simp; with_reducible rfl) | (trace_state; fail)
  try simp only [Act.put, List.setIfInBounds_toArray, List.set_cons_zero, List.set_cons_succ]
  refine wpAnyH_ready (rs := [5]) (by kernel_rfl) (by simp) ?_
  refine AllReadyH.cons (o := { dst := some 22, op := Op.call { callee := Callee.value (Operand.func 11), args := #[Operand.tmp 17, Operand.tmp 21], argTypes := #[37, 30] }, type := 3, pos := _, after := #[{ on := 0, ground := Ground.data }, { on := 4, ground := Ground.data }], guard := none }) rfl (fun K hK => ?_) AllReadyH.nil
  go_simp
  refine (HXc.out _ trivial hHeld).mono ?_; rintro r w2 ⟨rfl, hb⟩; have hHeld := hHeld.trans (hb.mono hHeld.size)
  go_wp2_with fail
  refine hK.out _ _ ?_ (fun hHeld => ?_)
  · (try dsimp only); first | assumption | exact Below.alloc hHeld hHeld.size _ | exact (Below.refl _ _).drew | exact Below.drew (Below.refl _ _) | exact Below_drewN _ _ _ | exact Below.refl _ _ | (trace_state; fail)
  clear hK K
  try simp only [Act.put, List.setIfInBounds_toArray, List.set_cons_zero, List.set_cons_succ]
  refine wpAnyH_take (i := 6) (oi := { dst := some 6, op := Op.assign (Operand.tmp 22), type := 3, pos := _, after := #[{ on := 5, ground := Ground.data }, { on := 5, ground := Ground.chain }, { on := 0, ground := Ground.phase }, { on := 1, ground := Ground.phase }, { on := 2, ground := Ground.phase }, { on := 3, ground := Ground.phase }, { on := 4, ground := Ground.phase }, { on := 5, ground := Ground.phase }], guard := none }) (v := ?_) rfl (by kernel_rfl) (by kernel_rfl) (by kernel_rfl) (fun _ _ _ h => h) (Or.inl ⟨by rfl, ?_⟩) (by assumption) ?_
  rotate_left
  · intro wt hSw; (try dsimp only at hSw); have s0 := cellB hSw s0 z0; have s1 := cellB hSw s1 z0; have s2 := cellB hSw s2 z0; have s3 := cellB hSw s3 z0; have g4 := cellB hSw g4 z1; have d0 := cellB hSw d0 zb; have d1 := cellB hSw d1 zb; have d2 := cellB hSw d2 zb; have d3 := cellB hSw d3 zb; have d4 := cellB hSw d4 zb; first | (go_simp; done) | (go_simp; with_reducible rfl) | (trace_state; fail)
  try simp only [Act.put, List.setIfInBounds_toArray, List.set_cons_zero, List.set_cons_succ]
  refine wpAnyH_done (by kernel_rfl) ?_ _
  have HHw := Lib.hid (HB0.out.trans (hHeld.mono HB0.out.size))
  have g0 := cellB hHeld g0 z1
  have g1 := cellB hHeld g1 z1
  have g2 := cellB hHeld g2 z1
  have g3 := cellB hHeld g3 z1
  have g4 := cellB hHeld g4 z1
  clear hHeld s0 s1 s2 s3 d0 d1 d2 d3 d4
  go_wp2_with fail
  refine (hK0 _).mono ?_; rintro r w2 ⟨rfl, rfl⟩
  go_wp2_with fail
  go_ret
  exact ⟨by rw [hres.out]; rfl, HHw.out⟩
end Go.Proofs.YtpecpeedefeokaaDoor
