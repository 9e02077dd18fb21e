/- Merged texts: TabBL, TabC, TabD, RdBlk, RdCst, TabPutC, TabPutD, RdVar. -/
import Derived.Test.YtjikkipdmonndaaDoorMg2
import Derived.Test.YtjikkipdmonndaaDoorMg0
/- Layer 14: a block's row as bytes: a name that is too long. -/
namespace Go.Proofs.YtjikkipdmonndaaDoor
open Go.RowKit
set_option linter.unusedSimpArgs false
set_option linter.unusedVariables false
set_option maxRecDepth 100000 in
set_option maxHeartbeats 4000000 in
theorem tab_PutBlock_long (s : ByteArray) (k : Int) (w : World) (hs : s.size ≤ 1000000) (hk : I64 k) (h2 : 255 < s.size) :
    Calls Tryd.prog 53 #[.agg #[.string s, .int .i64 k]] w fun e w' => ∃ r, e = .returned (.tuple #[r, .bool false]) ∧ Below w.heap.size w w' := by
  obtain ⟨i, hi, hz, hsize, hby⟩ : ∃ i, Tryd.prog.info? 5 = some i ∧ i.zero = some (.int .u8 0) ∧ i.size = 1 ∧ i.bytes = 1 := ⟨(Tryd.prog.info? 5).get!, by kernel_rfl, by kernel_rfl, by kernel_rfl, by kernel_rfl⟩
  have hq : ((s.size : Int) ≤ 255) = False := eq_false (by omega)
  go_enter Tryd.func53, Tryd.ntmps53
  go_wp2_with fail
  obtain ⟨W0, hW0⟩ : ∃ W0, W0 = w.alloc (.cells #[.string s, .int .i64 k] 43) := ⟨_, rfl⟩
  have bx := Boxed.new w [.string s, .int .i64 k] 43 (Below.refl _ _)
  have C0 := bx 0 _ rfl
  have C1 := bx 1 _ rfl
  clear bx
  rw [← hW0] at C0 C1
  have hz0 : w.heap.size < W0.heap.size := by rw [hW0]; simp
  rw [← hW0]
  obtain ⟨T, hT⟩ : ∃ T, T = [UInt8.ofNat (cut255 s).size] ++ (cut255 s).data.toList := ⟨_, rfl⟩
  obtain ⟨N, hN⟩ : ∃ N, N = 1 + (cut255 s).size := ⟨_, rfl⟩
  have hN1 : N ≤ 256 := by rw [hN]; unfold cut255; rw [if_pos (by omega)]; simp; omega
  have HTX := Lib.hid (fun W : World => (octet_Text (.slice none 0 0) [] s W (Or.inl ⟨none, 0, rfl, rfl, fun _ => rfl⟩) (by simp)).mono (R' := fun e w' => ∃ r, e = .returned r ∧ w'.ownsRow W.heap.size 5 1 r N (bytesV T) ∧ Below W.heap.size W w') (by rintro e w' ⟨r, h1, h2, h3⟩; exact ⟨r, h1, by rw [hT, hN]; simpa using h2, h3⟩))
  clear hT hN
  refine wp_region_facts (n := 20) (fun L b v => ∃ u2 u3 u4 u5 u6 u7 u8 u9 u10 u11 u12 u13 u14 u15 u16 u17 u18 u19 u20 u21 : Value, b = ⟨#[.agg #[.string s, .int .i64 k], .pointer (some ⟨w.heap.size, 0, none⟩), u2, u3, u4, u5, u6, u7, u8, u9, u10, u11, u12, u13, u14, u15, u16, u17, u18, u19, u20, u21], []⟩ ∧ Below W0.heap.size W0 v ∧ (L.getD 0 false = true → u4 = .pointer (some ⟨w.heap.size, 0, none⟩)) ∧ (L.getD 1 false = true → u5 = .string s) ∧ (L.getD 2 false = true → L.getD 7 true = false → v.ownsRow W0.heap.size 5 1 u6 N (bytesV T)) ∧ (L.getD 3 false = true → u7 = .pointer (some ⟨w.heap.size, 1, none⟩)) ∧ (L.getD 4 false = true → u8 = .int .i64 k) ∧ (L.getD 5 false = true → ∃ q, u9 = .slice (some ⟨q, 0, none⟩) 1 1 ∧ v.ownsRow W0.heap.size 3 1 (.slice (some ⟨q, 0, none⟩) 1 1) 1 [.int .i64 k]) ∧ (L.getD 6 false = true → L.getD 7 true = false → v.ownsRow W0.heap.size 5 1 u10 1 (bytesV [byteO k])) ∧ (L.getD 7 false = true → v.ownsRow W0.heap.size 5 1 u11 (N + 1) (bytesV T ++ bytesV [byteO k])) ∧ (L.getD 8 false = true → u12 = .pointer (some ⟨w.heap.size, 0, none⟩)) ∧ (L.getD 9 false = true → u13 = .string s) ∧ (L.getD 10 false = true → u14 = .int .i64 s.size) ∧ (L.getD 11 false = true → u15 = .bool false) ∧ (L.getD 12 false = true → u16 = .bool false) ∧ (L.getD 17 false = true → u21 = .bool false) ∧ (L.getD 18 false = true → v.ownsRow W0.heap.size 5 1 u2 (N + 1) (bytesV T ++ bytesV [byteO k])) ∧ (L.getD 19 false = true → u3 = .bool false)) (by kernel_rfl) (by kernel_rfl) (by kernel_rfl) ?_ ?_ ?_
  · refine ⟨_, _, _, _, _, _, _, _, _, _, _, _, _, _, _, _, _, _, _, _, rfl, (Below.refl _ _).drew, flag_new, flag_new, flag_new, flag_new, flag_new, flag_new, flag_new, flag_new, flag_new, flag_new, flag_new, flag_new, flag_new, flag_new, flag_new, flag_new⟩
  · refine AllSteps.succ (AllSteps.succ (AllSteps.succ (AllSteps.succ (AllSteps.succ (AllSteps.succ (AllSteps.succ (AllSteps.succ (AllSteps.succ (AllSteps.succ (AllSteps.succ (AllSteps.succ (AllSteps.succ (AllSteps.succ (AllSteps.succ (AllSteps.succ (AllSteps.succ (AllSteps.succ (AllSteps.succ (AllSteps.succ AllSteps.zero ?_) ?_) ?_) ?_) ?_) ?_) ?_) ?_) ?_) ?_) ?_) ?_) ?_) ?_) ?_) ?_) ?_) ?_) ?_) ?_
    · refine StepAt.mk (o := { dst := some 4, op := Op.fieldAddr 43 (Operand.tmp 1) 0, type := 0, pos := _, after := #[], guard := none }) (ws := []) rfl (by kernel_rfl) ?_
      intro L b v hC h0 hA h
      refine h.elim ?_; clear h; intro u2 h
      refine h.elim ?_; clear h; intro u3 h
      refine h.elim ?_; clear h; intro u4 h
      refine h.elim ?_; clear h; intro u5 h
      refine h.elim ?_; clear h; intro u6 h
      refine h.elim ?_; clear h; intro u7 h
      refine h.elim ?_; clear h; intro u8 h
      refine h.elim ?_; clear h; intro u9 h
      refine h.elim ?_; clear h; intro u10 h
      refine h.elim ?_; clear h; intro u11 h
      refine h.elim ?_; clear h; intro u12 h
      refine h.elim ?_; clear h; intro u13 h
      refine h.elim ?_; clear h; intro u14 h
      refine h.elim ?_; clear h; intro u15 h
      refine h.elim ?_; clear h; intro u16 h
      refine h.elim ?_; clear h; intro u17 h
      refine h.elim ?_; clear h; intro u18 h
      refine h.elim ?_; clear h; intro u19 h
      refine h.elim ?_; clear h; intro u20 h
      refine h.elim ?_; clear h; intro u21 h
      have hbb := h.1; replace h := h.2; subst hbb
      have hHeld := h.1; replace h := h.2
      have f0 := h.1; replace h := h.2
      have f1 := h.1; replace h := h.2
      have f2 := h.1; replace h := h.2
      have f3 := h.1; replace h := h.2
      have f4 := h.1; replace h := h.2
      have f5 := h.1; replace h := h.2
      have f6 := h.1; replace h := h.2
      have f7 := h.1; replace h := h.2
      have f8 := h.1; replace h := h.2
      have f9 := h.1; replace h := h.2
      have f10 := h.1; replace h := h.2
      have f11 := h.1; replace h := h.2
      have f12 := h.1; replace h := h.2
      have f17 := h.1; replace h := h.2
      have f18 := h.1; replace h := h.2
      have f19 := h; clear h
      intro K hK
      rw [if_pos (by kernel_rfl)]
      have q0 := cellB hHeld C0 hz0
      have q1 := cellB hHeld C1 hz0
      go_simp
      try simp only [Act.put, List.setIfInBounds_toArray, List.set_cons_zero, List.set_cons_succ]
      refine hK.out _ _ ⟨_, _, _, _, _, _, _, _, _, _, _, _, _, _, _, _, _, _, _, _, rfl, ?_, ?_, ?_, ?_, ?_, ?_, ?_, ?_, ?_, ?_, ?_, ?_, ?_, ?_, ?_, ?_, ?_⟩
      · first | exact hHeld | exact hHeld.trans (hb.mono hHeld.size) | (trace_state; fail)
      · intro _; first | rfl | (trace_state; fail)
      · first | exact flag_ne (by decide) f1 | exact fun _ => rfl
      · intro h _; rw [getD_set_ne false (by decide)] at h; exact (getD_no h0 (hC.step (j := 1) (k := 0) (hC.step (j := 2) (k := 1) h (by kernel_rfl)) (by kernel_rfl))).elim
      · first | exact flag_ne (by decide) f3 | exact fun _ => rfl
      · first | exact flag_ne (by decide) f4 | exact fun _ => rfl
      · intro h; rw [getD_set_ne false (by decide)] at h; have := f5 h; obtain ⟨q, e1, e2⟩ := this; exact (by first | exact ⟨q, e1, e2⟩ | exact ⟨q, e1, owns_below e2 hb⟩ | exact ⟨q, e1, owns_grown e2 hG (fun g hg => owns_type e2 g2 (by decide) hg)⟩ | (trace_state; fail))
      · intro h _; rw [getD_set_ne false (by decide)] at h; exact (getD_no h0 (hC.step (j := 1) (k := 0) (hC.step (j := 2) (k := 1) (hC.step (j := 6) (k := 2) h (by kernel_rfl)) (by kernel_rfl)) (by kernel_rfl))).elim
      · intro h; rw [getD_set_ne false (by decide)] at h; exact (getD_no h0 (hC.step (j := 1) (k := 0) (hC.step (j := 2) (k := 1) (hC.step (j := 7) (k := 2) h (by kernel_rfl)) (by kernel_rfl)) (by kernel_rfl))).elim
      · first | exact flag_ne (by decide) f8 | exact fun _ => rfl
      · first | exact flag_ne (by decide) f9 | exact fun _ => rfl
      · first | exact flag_ne (by decide) f10 | exact fun _ => rfl
      · first | exact flag_ne (by decide) f11 | exact fun _ => rfl
      · first | exact flag_ne (by decide) f12 | exact fun _ => rfl
      · first | exact flag_ne (by decide) f17 | exact fun _ => rfl
      · intro h; rw [getD_set_ne false (by decide)] at h; exact (getD_no h0 (hC.step (j := 18) (k := 0) h (by kernel_rfl))).elim
      · first | exact flag_ne (by decide) f19 | exact fun _ => rfl
    · refine StepAt.mk (o := { dst := some 5, op := Op.load 9 (Operand.tmp 4), type := 9, pos := _, after := #[{ on := 0, ground := Ground.data }], guard := none }) (ws := [0]) rfl (by kernel_rfl) ?_
      intro L b v hC h0 hA h
      refine h.elim ?_; clear h; intro u2 h
      refine h.elim ?_; clear h; intro u3 h
      refine h.elim ?_; clear h; intro u4 h
      refine h.elim ?_; clear h; intro u5 h
      refine h.elim ?_; clear h; intro u6 h
      refine h.elim ?_; clear h; intro u7 h
      refine h.elim ?_; clear h; intro u8 h
      refine h.elim ?_; clear h; intro u9 h
      refine h.elim ?_; clear h; intro u10 h
      refine h.elim ?_; clear h; intro u11 h
      refine h.elim ?_; clear h; intro u12 h
      refine h.elim ?_; clear h; intro u13 h
      refine h.elim ?_; clear h; intro u14 h
      refine h.elim ?_; clear h; intro u15 h
      refine h.elim ?_; clear h; intro u16 h
      refine h.elim ?_; clear h; intro u17 h
      refine h.elim ?_; clear h; intro u18 h
      refine h.elim ?_; clear h; intro u19 h
      refine h.elim ?_; clear h; intro u20 h
      refine h.elim ?_; clear h; intro u21 h
      have hbb := h.1; replace h := h.2; subst hbb
      have hHeld := h.1; replace h := h.2
      have f0 := h.1; replace h := h.2
      have f1 := h.1; replace h := h.2
      have f2 := h.1; replace h := h.2
      have f3 := h.1; replace h := h.2
      have f4 := h.1; replace h := h.2
      have f5 := h.1; replace h := h.2
      have f6 := h.1; replace h := h.2
      have f7 := h.1; replace h := h.2
      have f8 := h.1; replace h := h.2
      have f9 := h.1; replace h := h.2
      have f10 := h.1; replace h := h.2
      have f11 := h.1; replace h := h.2
      have f12 := h.1; replace h := h.2
      have f17 := h.1; replace h := h.2
      have f18 := h.1; replace h := h.2
      have f19 := h; clear h
      intro K hK
      have g0 := f0 (hA 0 (by simp))
      obtain rfl := g0
      rw [if_pos (by kernel_rfl)]
      have q0 := cellB hHeld C0 hz0
      have q1 := cellB hHeld C1 hz0
      go_simp
      try simp only [Act.put, List.setIfInBounds_toArray, List.set_cons_zero, List.set_cons_succ]
      refine hK.out _ _ ⟨_, _, _, _, _, _, _, _, _, _, _, _, _, _, _, _, _, _, _, _, rfl, ?_, ?_, ?_, ?_, ?_, ?_, ?_, ?_, ?_, ?_, ?_, ?_, ?_, ?_, ?_, ?_, ?_⟩
      · first | exact hHeld | exact hHeld.trans (hb.mono hHeld.size) | (trace_state; fail)
      · first | exact flag_ne (by decide) f0 | exact fun _ => rfl
      · intro _; first | rfl | (trace_state; fail)
      · intro h _; rw [getD_set_ne false (by decide)] at h; exact (getD_no h0 (hC.step (j := 2) (k := 1) h (by kernel_rfl))).elim
      · first | exact flag_ne (by decide) f3 | exact fun _ => rfl
      · first | exact flag_ne (by decide) f4 | exact fun _ => rfl
      · intro h; rw [getD_set_ne false (by decide)] at h; have := f5 h; obtain ⟨q, e1, e2⟩ := this; exact (by first | exact ⟨q, e1, e2⟩ | exact ⟨q, e1, owns_below e2 hb⟩ | exact ⟨q, e1, owns_grown e2 hG (fun g hg => owns_type e2 g2 (by decide) hg)⟩ | (trace_state; fail))
      · intro h _; rw [getD_set_ne false (by decide)] at h; exact (getD_no h0 (hC.step (j := 2) (k := 1) (hC.step (j := 6) (k := 2) h (by kernel_rfl)) (by kernel_rfl))).elim
      · intro h; rw [getD_set_ne false (by decide)] at h; exact (getD_no h0 (hC.step (j := 2) (k := 1) (hC.step (j := 7) (k := 2) h (by kernel_rfl)) (by kernel_rfl))).elim
      · first | exact flag_ne (by decide) f8 | exact fun _ => rfl
      · first | exact flag_ne (by decide) f9 | exact fun _ => rfl
      · first | exact flag_ne (by decide) f10 | exact fun _ => rfl
      · first | exact flag_ne (by decide) f11 | exact fun _ => rfl
      · first | exact flag_ne (by decide) f12 | exact fun _ => rfl
      · first | exact flag_ne (by decide) f17 | exact fun _ => rfl
      · intro h; rw [getD_set_ne false (by decide)] at h; exact (getD_no h0 (hC.step (j := 18) (k := 1) h (by kernel_rfl))).elim
      · first | exact flag_ne (by decide) f19 | exact fun _ => rfl
    · refine StepAt.mk (o := { dst := some 6, op := Op.call { callee := Callee.value (Operand.func 51), args := #[Operand.const (Value.slice none 0 0), Operand.tmp 5], argTypes := #[30, 9] }, type := 30, pos := _, after := #[{ on := 1, ground := Ground.data }], guard := none }) (ws := [1]) rfl (by kernel_rfl) ?_
      intro L b v hC h0 hA h
      refine h.elim ?_; clear h; intro u2 h
      refine h.elim ?_; clear h; intro u3 h
      refine h.elim ?_; clear h; intro u4 h
      refine h.elim ?_; clear h; intro u5 h
      refine h.elim ?_; clear h; intro u6 h
      refine h.elim ?_; clear h; intro u7 h
      refine h.elim ?_; clear h; intro u8 h
      refine h.elim ?_; clear h; intro u9 h
      refine h.elim ?_; clear h; intro u10 h
      refine h.elim ?_; clear h; intro u11 h
      refine h.elim ?_; clear h; intro u12 h
      refine h.elim ?_; clear h; intro u13 h
      refine h.elim ?_; clear h; intro u14 h
      refine h.elim ?_; clear h; intro u15 h
      refine h.elim ?_; clear h; intro u16 h
      refine h.elim ?_; clear h; intro u17 h
      refine h.elim ?_; clear h; intro u18 h
      refine h.elim ?_; clear h; intro u19 h
      refine h.elim ?_; clear h; intro u20 h
      refine h.elim ?_; clear h; intro u21 h
      have hbb := h.1; replace h := h.2; subst hbb
      have hHeld := h.1; replace h := h.2
      have f0 := h.1; replace h := h.2
      have f1 := h.1; replace h := h.2
      have f2 := h.1; replace h := h.2
      have f3 := h.1; replace h := h.2
      have f4 := h.1; replace h := h.2
      have f5 := h.1; replace h := h.2
      have f6 := h.1; replace h := h.2
      have f7 := h.1; replace h := h.2
      have f8 := h.1; replace h := h.2
      have f9 := h.1; replace h := h.2
      have f10 := h.1; replace h := h.2
      have f11 := h.1; replace h := h.2
      have f12 := h.1; replace h := h.2
      have f17 := h.1; replace h := h.2
      have f18 := h.1; replace h := h.2
      have f19 := h; clear h
      intro K hK
      have g1 := f1 (hA 1 (by simp))
      obtain rfl := g1
      rw [if_pos (by kernel_rfl)]
      have q0 := cellB hHeld C0 hz0
      have q1 := cellB hHeld C1 hz0
      go_simp
      refine (HTX.out v).mono ?_; rintro e v1 ⟨r, rfl, HO, hb⟩
      go_wp2_with fail
      try simp only [Act.put, List.setIfInBounds_toArray, List.set_cons_zero, List.set_cons_succ]
      refine hK.out _ _ ⟨_, _, _, _, _, _, _, _, _, _, _, _, _, _, _, _, _, _, _, _, rfl, ?_, ?_, ?_, ?_, ?_, ?_, ?_, ?_, ?_, ?_, ?_, ?_, ?_, ?_, ?_, ?_, ?_⟩
      · first | exact hHeld | exact hHeld.trans (hb.mono hHeld.size) | (trace_state; fail)
      · first | exact flag_ne (by decide) f0 | exact fun _ => rfl
      · first | exact flag_ne (by decide) f1 | exact fun _ => rfl
      · intro _ _; first | (exact own_low HO hHeld.size) | (trace_state; fail)
      · first | exact flag_ne (by decide) f3 | exact fun _ => rfl
      · first | exact flag_ne (by decide) f4 | exact fun _ => rfl
      · intro h; rw [getD_set_ne false (by decide)] at h; have := f5 h; obtain ⟨q, e1, e2⟩ := this; exact (by first | exact ⟨q, e1, e2⟩ | exact ⟨q, e1, owns_below e2 hb⟩ | exact ⟨q, e1, owns_grown e2 hG (fun g hg => owns_type e2 g2 (by decide) hg)⟩ | (trace_state; fail))
      · intro h _; rw [getD_set_ne false (by decide)] at h; exact (getD_no h0 (hC.step (j := 6) (k := 2) h (by kernel_rfl))).elim
      · intro h; rw [getD_set_ne false (by decide)] at h; exact (getD_no h0 (hC.step (j := 7) (k := 2) h (by kernel_rfl))).elim
      · first | exact flag_ne (by decide) f8 | exact fun _ => rfl
      · first | exact flag_ne (by decide) f9 | exact fun _ => rfl
      · first | exact flag_ne (by decide) f10 | exact fun _ => rfl
      · first | exact flag_ne (by decide) f11 | exact fun _ => rfl
      · first | exact flag_ne (by decide) f12 | exact fun _ => rfl
      · first | exact flag_ne (by decide) f17 | exact fun _ => rfl
      · intro h; rw [getD_set_ne false (by decide)] at h; exact (getD_no h0 (hC.step (j := 18) (k := 2) h (by kernel_rfl))).elim
      · first | exact flag_ne (by decide) f19 | exact fun _ => rfl
    · refine StepAt.mk (o := { dst := some 7, op := Op.fieldAddr 43 (Operand.tmp 1) 1, type := 0, pos := _, after := #[], guard := none }) (ws := []) rfl (by kernel_rfl) ?_
      intro L b v hC h0 hA h
      refine h.elim ?_; clear h; intro u2 h
      refine h.elim ?_; clear h; intro u3 h
      refine h.elim ?_; clear h; intro u4 h
      refine h.elim ?_; clear h; intro u5 h
      refine h.elim ?_; clear h; intro u6 h
      refine h.elim ?_; clear h; intro u7 h
      refine h.elim ?_; clear h; intro u8 h
      refine h.elim ?_; clear h; intro u9 h
      refine h.elim ?_; clear h; intro u10 h
      refine h.elim ?_; clear h; intro u11 h
      refine h.elim ?_; clear h; intro u12 h
      refine h.elim ?_; clear h; intro u13 h
      refine h.elim ?_; clear h; intro u14 h
      refine h.elim ?_; clear h; intro u15 h
      refine h.elim ?_; clear h; intro u16 h
      refine h.elim ?_; clear h; intro u17 h
      refine h.elim ?_; clear h; intro u18 h
      refine h.elim ?_; clear h; intro u19 h
      refine h.elim ?_; clear h; intro u20 h
      refine h.elim ?_; clear h; intro u21 h
      have hbb := h.1; replace h := h.2; subst hbb
      have hHeld := h.1; replace h := h.2
      have f0 := h.1; replace h := h.2
      have f1 := h.1; replace h := h.2
      have f2 := h.1; replace h := h.2
      have f3 := h.1; replace h := h.2
      have f4 := h.1; replace h := h.2
      have f5 := h.1; replace h := h.2
      have f6 := h.1; replace h := h.2
      have f7 := h.1; replace h := h.2
      have f8 := h.1; replace h := h.2
      have f9 := h.1; replace h := h.2
      have f10 := h.1; replace h := h.2
      have f11 := h.1; replace h := h.2
      have f12 := h.1; replace h := h.2
      have f17 := h.1; replace h := h.2
      have f18 := h.1; replace h := h.2
      have f19 := h; clear h
      intro K hK
      rw [if_pos (by kernel_rfl)]
      have q0 := cellB hHeld C0 hz0
      have q1 := cellB hHeld C1 hz0
      go_simp
      try simp only [Act.put, List.setIfInBounds_toArray, List.set_cons_zero, List.set_cons_succ]
      refine hK.out _ _ ⟨_, _, _, _, _, _, _, _, _, _, _, _, _, _, _, _, _, _, _, _, rfl, ?_, ?_, ?_, ?_, ?_, ?_, ?_, ?_, ?_, ?_, ?_, ?_, ?_, ?_, ?_, ?_, ?_⟩
      · first | exact hHeld | exact hHeld.trans (hb.mono hHeld.size) | (trace_state; fail)
      · first | exact flag_ne (by decide) f0 | exact fun _ => rfl
      · first | exact flag_ne (by decide) f1 | exact fun _ => rfl
      · intro h h7; rw [getD_set_ne false (by decide)] at h; rw [getD_set_ne true (by decide)] at h7; have := f2 h h7; first | exact this | exact owns_below this hb | (trace_state; fail)
      · intro _; first | rfl | (trace_state; fail)
      · first | exact flag_ne (by decide) f4 | exact fun _ => rfl
      · intro h; rw [getD_set_ne false (by decide)] at h; exact (getD_no h0 (hC.step (j := 4) (k := 3) (hC.step (j := 5) (k := 4) h (by kernel_rfl)) (by kernel_rfl))).elim
      · intro h _; rw [getD_set_ne false (by decide)] at h; exact (getD_no h0 (hC.step (j := 4) (k := 3) (hC.step (j := 5) (k := 4) (hC.step (j := 6) (k := 5) h (by kernel_rfl)) (by kernel_rfl)) (by kernel_rfl))).elim
      · intro h; rw [getD_set_ne false (by decide)] at h; exact (getD_no h0 (hC.step (j := 4) (k := 3) (hC.step (j := 5) (k := 4) (hC.step (j := 6) (k := 5) (hC.step (j := 7) (k := 6) h (by kernel_rfl)) (by kernel_rfl)) (by kernel_rfl)) (by kernel_rfl))).elim
      · first | exact flag_ne (by decide) f8 | exact fun _ => rfl
      · first | exact flag_ne (by decide) f9 | exact fun _ => rfl
      · first | exact flag_ne (by decide) f10 | exact fun _ => rfl
      · first | exact flag_ne (by decide) f11 | exact fun _ => rfl
      · first | exact flag_ne (by decide) f12 | exact fun _ => rfl
      · first | exact flag_ne (by decide) f17 | exact fun _ => rfl
      · intro h; rw [getD_set_ne false (by decide)] at h; exact (getD_no h0 (hC.step (j := 18) (k := 3) h (by kernel_rfl))).elim
      · first | exact flag_ne (by decide) f19 | exact fun _ => rfl
    · refine StepAt.mk (o := { dst := some 8, op := Op.load 3 (Operand.tmp 7), type := 3, pos := _, after := #[{ on := 3, ground := Ground.data }], guard := none }) (ws := [3]) rfl (by kernel_rfl) ?_
      intro L b v hC h0 hA h
      refine h.elim ?_; clear h; intro u2 h
      refine h.elim ?_; clear h; intro u3 h
      refine h.elim ?_; clear h; intro u4 h
      refine h.elim ?_; clear h; intro u5 h
      refine h.elim ?_; clear h; intro u6 h
      refine h.elim ?_; clear h; intro u7 h
      refine h.elim ?_; clear h; intro u8 h
      refine h.elim ?_; clear h; intro u9 h
      refine h.elim ?_; clear h; intro u10 h
      refine h.elim ?_; clear h; intro u11 h
      refine h.elim ?_; clear h; intro u12 h
      refine h.elim ?_; clear h; intro u13 h
      refine h.elim ?_; clear h; intro u14 h
      refine h.elim ?_; clear h; intro u15 h
      refine h.elim ?_; clear h; intro u16 h
      refine h.elim ?_; clear h; intro u17 h
      refine h.elim ?_; clear h; intro u18 h
      refine h.elim ?_; clear h; intro u19 h
      refine h.elim ?_; clear h; intro u20 h
      refine h.elim ?_; clear h; intro u21 h
      have hbb := h.1; replace h := h.2; subst hbb
      have hHeld := h.1; replace h := h.2
      have f0 := h.1; replace h := h.2
      have f1 := h.1; replace h := h.2
      have f2 := h.1; replace h := h.2
      have f3 := h.1; replace h := h.2
      have f4 := h.1; replace h := h.2
      have f5 := h.1; replace h := h.2
      have f6 := h.1; replace h := h.2
      have f7 := h.1; replace h := h.2
      have f8 := h.1; replace h := h.2
      have f9 := h.1; replace h := h.2
      have f10 := h.1; replace h := h.2
      have f11 := h.1; replace h := h.2
      have f12 := h.1; replace h := h.2
      have f17 := h.1; replace h := h.2
      have f18 := h.1; replace h := h.2
      have f19 := h; clear h
      intro K hK
      have g3 := f3 (hA 3 (by simp))
      obtain rfl := g3
      rw [if_pos (by kernel_rfl)]
      have q0 := cellB hHeld C0 hz0
      have q1 := cellB hHeld C1 hz0
      go_simp
      try simp only [Act.put, List.setIfInBounds_toArray, List.set_cons_zero, List.set_cons_succ]
      refine hK.out _ _ ⟨_, _, _, _, _, _, _, _, _, _, _, _, _, _, _, _, _, _, _, _, rfl, ?_, ?_, ?_, ?_, ?_, ?_, ?_, ?_, ?_, ?_, ?_, ?_, ?_, ?_, ?_, ?_, ?_⟩
      · first | exact hHeld | exact hHeld.trans (hb.mono hHeld.size) | (trace_state; fail)
      · first | exact flag_ne (by decide) f0 | exact fun _ => rfl
      · first | exact flag_ne (by decide) f1 | exact fun _ => rfl
      · intro h h7; rw [getD_set_ne false (by decide)] at h; rw [getD_set_ne true (by decide)] at h7; have := f2 h h7; first | exact this | exact owns_below this hb | (trace_state; fail)
      · first | exact flag_ne (by decide) f3 | exact fun _ => rfl
      · intro _; first | rfl | (trace_state; fail)
      · intro h; rw [getD_set_ne false (by decide)] at h; exact (getD_no h0 (hC.step (j := 5) (k := 4) h (by kernel_rfl))).elim
      · intro h _; rw [getD_set_ne false (by decide)] at h; exact (getD_no h0 (hC.step (j := 5) (k := 4) (hC.step (j := 6) (k := 5) h (by kernel_rfl)) (by kernel_rfl))).elim
      · intro h; rw [getD_set_ne false (by decide)] at h; exact (getD_no h0 (hC.step (j := 5) (k := 4) (hC.step (j := 6) (k := 5) (hC.step (j := 7) (k := 6) h (by kernel_rfl)) (by kernel_rfl)) (by kernel_rfl))).elim
      · first | exact flag_ne (by decide) f8 | exact fun _ => rfl
      · first | exact flag_ne (by decide) f9 | exact fun _ => rfl
      · first | exact flag_ne (by decide) f10 | exact fun _ => rfl
      · first | exact flag_ne (by decide) f11 | exact fun _ => rfl
      · first | exact flag_ne (by decide) f12 | exact fun _ => rfl
      · first | exact flag_ne (by decide) f17 | exact fun _ => rfl
      · intro h; rw [getD_set_ne false (by decide)] at h; exact (getD_no h0 (hC.step (j := 18) (k := 4) h (by kernel_rfl))).elim
      · first | exact flag_ne (by decide) f19 | exact fun _ => rfl
    · refine StepAt.mk (o := { dst := some 9, op := Op.buildSlice 45 1 #[(0, Operand.tmp 8)], type := 45, pos := _, after := #[{ on := 4, ground := Ground.data }], guard := none }) (ws := [4]) rfl (by kernel_rfl) ?_
      intro L b v hC h0 hA h
      refine h.elim ?_; clear h; intro u2 h
      refine h.elim ?_; clear h; intro u3 h
      refine h.elim ?_; clear h; intro u4 h
      refine h.elim ?_; clear h; intro u5 h
      refine h.elim ?_; clear h; intro u6 h
      refine h.elim ?_; clear h; intro u7 h
      refine h.elim ?_; clear h; intro u8 h
      refine h.elim ?_; clear h; intro u9 h
      refine h.elim ?_; clear h; intro u10 h
      refine h.elim ?_; clear h; intro u11 h
      refine h.elim ?_; clear h; intro u12 h
      refine h.elim ?_; clear h; intro u13 h
      refine h.elim ?_; clear h; intro u14 h
      refine h.elim ?_; clear h; intro u15 h
      refine h.elim ?_; clear h; intro u16 h
      refine h.elim ?_; clear h; intro u17 h
      refine h.elim ?_; clear h; intro u18 h
      refine h.elim ?_; clear h; intro u19 h
      refine h.elim ?_; clear h; intro u20 h
      refine h.elim ?_; clear h; intro u21 h
      have hbb := h.1; replace h := h.2; subst hbb
      have hHeld := h.1; replace h := h.2
      have f0 := h.1; replace h := h.2
      have f1 := h.1; replace h := h.2
      have f2 := h.1; replace h := h.2
      have f3 := h.1; replace h := h.2
      have f4 := h.1; replace h := h.2
      have f5 := h.1; replace h := h.2
      have f6 := h.1; replace h := h.2
      have f7 := h.1; replace h := h.2
      have f8 := h.1; replace h := h.2
      have f9 := h.1; replace h := h.2
      have f10 := h.1; replace h := h.2
      have f11 := h.1; replace h := h.2
      have f12 := h.1; replace h := h.2
      have f17 := h.1; replace h := h.2
      have f18 := h.1; replace h := h.2
      have f19 := h; clear h
      intro K hK
      have g4 := f4 (hA 4 (by simp))
      obtain rfl := g4
      rw [if_pos (by kernel_rfl)]
      have q0 := cellB hHeld C0 hz0
      have q1 := cellB hHeld C1 hz0
      go_simp
      try simp only [Act.put, List.setIfInBounds_toArray, List.set_cons_zero, List.set_cons_succ]
      have hb : Below v.heap.size v (v.alloc (.cells #[.int .i64 k] 3)) := (Below.refl _ _).alloc (Nat.le_refl _) _
      refine hK.out _ _ ⟨_, _, _, _, _, _, _, _, _, _, _, _, _, _, _, _, _, _, _, _, rfl, ?_, ?_, ?_, ?_, ?_, ?_, ?_, ?_, ?_, ?_, ?_, ?_, ?_, ?_, ?_, ?_, ?_⟩
      · first | exact hHeld | exact hHeld.trans (hb.mono hHeld.size) | (trace_state; fail)
      · first | exact flag_ne (by decide) f0 | exact fun _ => rfl
      · first | exact flag_ne (by decide) f1 | exact fun _ => rfl
      · intro h h7; rw [getD_set_ne false (by decide)] at h; rw [getD_set_ne true (by decide)] at h7; have := f2 h h7; first | exact this | exact owns_below this hb | (trace_state; fail)
      · first | exact flag_ne (by decide) f3 | exact fun _ => rfl
      · first | exact flag_ne (by decide) f4 | exact fun _ => rfl
      · intro _; first | exact ⟨_, rfl, owns_int1 _ k hHeld.size⟩ | (trace_state; fail)
      · intro h _; rw [getD_set_ne false (by decide)] at h; exact (getD_no h0 (hC.step (j := 6) (k := 5) h (by kernel_rfl))).elim
      · intro h; rw [getD_set_ne false (by decide)] at h; exact (getD_no h0 (hC.step (j := 6) (k := 5) (hC.step (j := 7) (k := 6) h (by kernel_rfl)) (by kernel_rfl))).elim
      · first | exact flag_ne (by decide) f8 | exact fun _ => rfl
      · first | exact flag_ne (by decide) f9 | exact fun _ => rfl
      · first | exact flag_ne (by decide) f10 | exact fun _ => rfl
      · first | exact flag_ne (by decide) f11 | exact fun _ => rfl
      · first | exact flag_ne (by decide) f12 | exact fun _ => rfl
      · first | exact flag_ne (by decide) f17 | exact fun _ => rfl
      · intro h; rw [getD_set_ne false (by decide)] at h; exact (getD_no h0 (hC.step (j := 18) (k := 5) h (by kernel_rfl))).elim
      · first | exact flag_ne (by decide) f19 | exact fun _ => rfl
    · refine StepAt.mk (o := { dst := some 10, op := Op.call { callee := Callee.value (Operand.func 47), args := #[Operand.tmp 9], argTypes := #[45] }, type := 30, pos := _, after := #[{ on := 5, ground := Ground.data }, { on := 2, ground := Ground.chain }], guard := none }) (ws := [5, 2]) rfl (by kernel_rfl) ?_
      intro L b v hC h0 hA h
      refine h.elim ?_; clear h; intro u2 h
      refine h.elim ?_; clear h; intro u3 h
      refine h.elim ?_; clear h; intro u4 h
      refine h.elim ?_; clear h; intro u5 h
      refine h.elim ?_; clear h; intro u6 h
      refine h.elim ?_; clear h; intro u7 h
      refine h.elim ?_; clear h; intro u8 h
      refine h.elim ?_; clear h; intro u9 h
      refine h.elim ?_; clear h; intro u10 h
      refine h.elim ?_; clear h; intro u11 h
      refine h.elim ?_; clear h; intro u12 h
      refine h.elim ?_; clear h; intro u13 h
      refine h.elim ?_; clear h; intro u14 h
      refine h.elim ?_; clear h; intro u15 h
      refine h.elim ?_; clear h; intro u16 h
      refine h.elim ?_; clear h; intro u17 h
      refine h.elim ?_; clear h; intro u18 h
      refine h.elim ?_; clear h; intro u19 h
      refine h.elim ?_; clear h; intro u20 h
      refine h.elim ?_; clear h; intro u21 h
      have hbb := h.1; replace h := h.2; subst hbb
      have hHeld := h.1; replace h := h.2
      have f0 := h.1; replace h := h.2
      have f1 := h.1; replace h := h.2
      have f2 := h.1; replace h := h.2
      have f3 := h.1; replace h := h.2
      have f4 := h.1; replace h := h.2
      have f5 := h.1; replace h := h.2
      have f6 := h.1; replace h := h.2
      have f7 := h.1; replace h := h.2
      have f8 := h.1; replace h := h.2
      have f9 := h.1; replace h := h.2
      have f10 := h.1; replace h := h.2
      have f11 := h.1; replace h := h.2
      have f12 := h.1; replace h := h.2
      have f17 := h.1; replace h := h.2
      have f18 := h.1; replace h := h.2
      have f19 := h; clear h
      intro K hK
      have g5 := f5 (hA 5 (by simp))
      obtain ⟨q9, rfl, H9⟩ := g5
      have g2 := f2 (hA 2 (by simp))
      rw [if_pos (by kernel_rfl)]
      have q0 := cellB hHeld C0 hz0
      have q1 := cellB hHeld C1 hz0
      go_simp
      refine (tab_bytesOf _ [k] v (row_of_owns H9 (fun z hz => by simp at hz; exact hz ▸ hk)) (by simp)).mono ?_; rintro e v1 ⟨r, rfl, HO, hb⟩
      go_wp2_with fail
      try simp only [Act.put, List.setIfInBounds_toArray, List.set_cons_zero, List.set_cons_succ]
      refine hK.out _ _ ⟨_, _, _, _, _, _, _, _, _, _, _, _, _, _, _, _, _, _, _, _, rfl, ?_, ?_, ?_, ?_, ?_, ?_, ?_, ?_, ?_, ?_, ?_, ?_, ?_, ?_, ?_, ?_, ?_⟩
      · first | exact hHeld | exact hHeld.trans (hb.mono hHeld.size) | (trace_state; fail)
      · first | exact flag_ne (by decide) f0 | exact fun _ => rfl
      · first | exact flag_ne (by decide) f1 | exact fun _ => rfl
      · intro h h7; rw [getD_set_ne false (by decide)] at h; rw [getD_set_ne true (by decide)] at h7; have := f2 h h7; first | exact this | exact owns_below this hb | (trace_state; fail)
      · first | exact flag_ne (by decide) f3 | exact fun _ => rfl
      · first | exact flag_ne (by decide) f4 | exact fun _ => rfl
      · intro h; rw [getD_set_ne false (by decide)] at h; have := f5 h; obtain ⟨q, e1, e2⟩ := this; exact (by first | exact ⟨q, e1, e2⟩ | exact ⟨q, e1, owns_below e2 hb⟩ | exact ⟨q, e1, owns_grown e2 hG (fun g hg => owns_type e2 g2 (by decide) hg)⟩ | (trace_state; fail))
      · intro _ _; first | (exact own_low HO hHeld.size) | (trace_state; fail)
      · intro h; rw [getD_set_ne false (by decide)] at h; exact (getD_no h0 (hC.step (j := 7) (k := 6) h (by kernel_rfl))).elim
      · first | exact flag_ne (by decide) f8 | exact fun _ => rfl
      · first | exact flag_ne (by decide) f9 | exact fun _ => rfl
      · first | exact flag_ne (by decide) f10 | exact fun _ => rfl
      · first | exact flag_ne (by decide) f11 | exact fun _ => rfl
      · first | exact flag_ne (by decide) f12 | exact fun _ => rfl
      · first | exact flag_ne (by decide) f17 | exact fun _ => rfl
      · intro h; rw [getD_set_ne false (by decide)] at h; exact (getD_no h0 (hC.step (j := 18) (k := 6) h (by kernel_rfl))).elim
      · first | exact flag_ne (by decide) f19 | exact fun _ => rfl
    · refine StepAt.mk (o := { dst := some 11, op := Op.call { callee := Callee.builtin Builtin.append, args := #[Operand.tmp 6, Operand.tmp 10], argTypes := #[30, 30] }, type := 30, pos := _, after := #[{ on := 2, ground := Ground.data }, { on := 6, ground := Ground.data }, { on := 6, ground := Ground.chain }], guard := none }) (ws := [2, 6, 6]) rfl (by kernel_rfl) ?_
      intro L b v hC h0 hA h
      refine h.elim ?_; clear h; intro u2 h
      refine h.elim ?_; clear h; intro u3 h
      refine h.elim ?_; clear h; intro u4 h
      refine h.elim ?_; clear h; intro u5 h
      refine h.elim ?_; clear h; intro u6 h
      refine h.elim ?_; clear h; intro u7 h
      refine h.elim ?_; clear h; intro u8 h
      refine h.elim ?_; clear h; intro u9 h
      refine h.elim ?_; clear h; intro u10 h
      refine h.elim ?_; clear h; intro u11 h
      refine h.elim ?_; clear h; intro u12 h
      refine h.elim ?_; clear h; intro u13 h
      refine h.elim ?_; clear h; intro u14 h
      refine h.elim ?_; clear h; intro u15 h
      refine h.elim ?_; clear h; intro u16 h
      refine h.elim ?_; clear h; intro u17 h
      refine h.elim ?_; clear h; intro u18 h
      refine h.elim ?_; clear h; intro u19 h
      refine h.elim ?_; clear h; intro u20 h
      refine h.elim ?_; clear h; intro u21 h
      have hbb := h.1; replace h := h.2; subst hbb
      have hHeld := h.1; replace h := h.2
      have f0 := h.1; replace h := h.2
      have f1 := h.1; replace h := h.2
      have f2 := h.1; replace h := h.2
      have f3 := h.1; replace h := h.2
      have f4 := h.1; replace h := h.2
      have f5 := h.1; replace h := h.2
      have f6 := h.1; replace h := h.2
      have f7 := h.1; replace h := h.2
      have f8 := h.1; replace h := h.2
      have f9 := h.1; replace h := h.2
      have f10 := h.1; replace h := h.2
      have f11 := h.1; replace h := h.2
      have f12 := h.1; replace h := h.2
      have f17 := h.1; replace h := h.2
      have f18 := h.1; replace h := h.2
      have f19 := h; clear h
      intro K hK
      have g2 := f2 (hA 2 (by simp)) h0
      have g6 := f6 (hA 6 (by simp)) h0
      rw [if_pos (by kernel_rfl)]
      have q0 := cellB hHeld C0 hz0
      have q1 := cellB hHeld C1 hz0
      refine wp_append_src (.tmp 6) (.tmp 10) 30 rfl W0.heap.size 5 i (.int .u8 0) 1 1 Tryd.underlying30 hi hz hsize hby rfl (by omega) u6 N _ rfl g2 u10 1 _ rfl (src_own g6) rfl (bytesV_one _) (by unfold maxLen; omega) (by omega) hHeld.size ?_; intro v' w' HO hG
      try simp only [Act.put, List.setIfInBounds_toArray, List.set_cons_zero, List.set_cons_succ]
      refine hK.out _ _ ⟨_, _, _, _, _, _, _, _, _, _, _, _, _, _, _, _, _, _, _, _, rfl, ?_, ?_, ?_, ?_, ?_, ?_, ?_, ?_, ?_, ?_, ?_, ?_, ?_, ?_, ?_, ?_, ?_⟩
      · exact grown3 hHeld hHeld.size g2 hG
      · first | exact flag_ne (by decide) f0 | exact fun _ => rfl
      · first | exact flag_ne (by decide) f1 | exact fun _ => rfl
      · intro _ h7; rw [getD_set_self] at h7; cases h7
      · first | exact flag_ne (by decide) f3 | exact fun _ => rfl
      · first | exact flag_ne (by decide) f4 | exact fun _ => rfl
      · intro h; rw [getD_set_ne false (by decide)] at h; have := f5 h; obtain ⟨q, e1, e2⟩ := this; exact (by first | exact ⟨q, e1, e2⟩ | exact ⟨q, e1, owns_below e2 hb⟩ | exact ⟨q, e1, owns_grown e2 hG (fun g hg => owns_type e2 g2 (by decide) hg)⟩ | (trace_state; fail))
      · intro _ h7; rw [getD_set_self] at h7; cases h7
      · intro _; first | exact HO | (trace_state; fail)
      · first | exact flag_ne (by decide) f8 | exact fun _ => rfl
      · first | exact flag_ne (by decide) f9 | exact fun _ => rfl
      · first | exact flag_ne (by decide) f10 | exact fun _ => rfl
      · first | exact flag_ne (by decide) f11 | exact fun _ => rfl
      · first | exact flag_ne (by decide) f12 | exact fun _ => rfl
      · first | exact flag_ne (by decide) f17 | exact fun _ => rfl
      · intro h; rw [getD_set_ne false (by decide)] at h; exact (getD_no h0 (hC.step (j := 18) (k := 7) h (by kernel_rfl))).elim
      · first | exact flag_ne (by decide) f19 | exact fun _ => rfl
    · refine StepAt.mk (o := { dst := some 12, op := Op.fieldAddr 43 (Operand.tmp 1) 0, type := 0, pos := _, after := #[], guard := none }) (ws := []) rfl (by kernel_rfl) ?_
      intro L b v hC h0 hA h
      refine h.elim ?_; clear h; intro u2 h
      refine h.elim ?_; clear h; intro u3 h
      refine h.elim ?_; clear h; intro u4 h
      refine h.elim ?_; clear h; intro u5 h
      refine h.elim ?_; clear h; intro u6 h
      refine h.elim ?_; clear h; intro u7 h
      refine h.elim ?_; clear h; intro u8 h
      refine h.elim ?_; clear h; intro u9 h
      refine h.elim ?_; clear h; intro u10 h
      refine h.elim ?_; clear h; intro u11 h
      refine h.elim ?_; clear h; intro u12 h
      refine h.elim ?_; clear h; intro u13 h
      refine h.elim ?_; clear h; intro u14 h
      refine h.elim ?_; clear h; intro u15 h
      refine h.elim ?_; clear h; intro u16 h
      refine h.elim ?_; clear h; intro u17 h
      refine h.elim ?_; clear h; intro u18 h
      refine h.elim ?_; clear h; intro u19 h
      refine h.elim ?_; clear h; intro u20 h
      refine h.elim ?_; clear h; intro u21 h
      have hbb := h.1; replace h := h.2; subst hbb
      have hHeld := h.1; replace h := h.2
      have f0 := h.1; replace h := h.2
      have f1 := h.1; replace h := h.2
      have f2 := h.1; replace h := h.2
      have f3 := h.1; replace h := h.2
      have f4 := h.1; replace h := h.2
      have f5 := h.1; replace h := h.2
      have f6 := h.1; replace h := h.2
      have f7 := h.1; replace h := h.2
      have f8 := h.1; replace h := h.2
      have f9 := h.1; replace h := h.2
      have f10 := h.1; replace h := h.2
      have f11 := h.1; replace h := h.2
      have f12 := h.1; replace h := h.2
      have f17 := h.1; replace h := h.2
      have f18 := h.1; replace h := h.2
      have f19 := h; clear h
      intro K hK
      rw [if_pos (by kernel_rfl)]
      have q0 := cellB hHeld C0 hz0
      have q1 := cellB hHeld C1 hz0
      go_simp
      try simp only [Act.put, List.setIfInBounds_toArray, List.set_cons_zero, List.set_cons_succ]
      refine hK.out _ _ ⟨_, _, _, _, _, _, _, _, _, _, _, _, _, _, _, _, _, _, _, _, rfl, ?_, ?_, ?_, ?_, ?_, ?_, ?_, ?_, ?_, ?_, ?_, ?_, ?_, ?_, ?_, ?_, ?_⟩
      · first | exact hHeld | exact hHeld.trans (hb.mono hHeld.size) | (trace_state; fail)
      · first | exact flag_ne (by decide) f0 | exact fun _ => rfl
      · first | exact flag_ne (by decide) f1 | exact fun _ => rfl
      · intro h h7; rw [getD_set_ne false (by decide)] at h; rw [getD_set_ne true (by decide)] at h7; have := f2 h h7; first | exact this | exact owns_below this hb | (trace_state; fail)
      · first | exact flag_ne (by decide) f3 | exact fun _ => rfl
      · first | exact flag_ne (by decide) f4 | exact fun _ => rfl
      · intro h; rw [getD_set_ne false (by decide)] at h; have := f5 h; obtain ⟨q, e1, e2⟩ := this; exact (by first | exact ⟨q, e1, e2⟩ | exact ⟨q, e1, owns_below e2 hb⟩ | exact ⟨q, e1, owns_grown e2 hG (fun g hg => owns_type e2 g2 (by decide) hg)⟩ | (trace_state; fail))
      · intro h h7; rw [getD_set_ne false (by decide)] at h; rw [getD_set_ne true (by decide)] at h7; have := f6 h h7; first | exact this | exact owns_below this hb | (trace_state; fail)
      · intro h; rw [getD_set_ne false (by decide)] at h; have := f7 h; first | exact this | exact owns_below this hb | (trace_state; fail)
      · intro _; first | rfl | (trace_state; fail)
      · first | exact flag_ne (by decide) f9 | exact fun _ => rfl
      · first | exact flag_ne (by decide) f10 | exact fun _ => rfl
      · first | exact flag_ne (by decide) f11 | exact fun _ => rfl
      · first | exact flag_ne (by decide) f12 | exact fun _ => rfl
      · first | exact flag_ne (by decide) f17 | exact fun _ => rfl
      · intro h; rw [getD_set_ne false (by decide)] at h; exact (getD_no h0 (hC.step (j := 9) (k := 8) (hC.step (j := 10) (k := 9) (hC.step (j := 11) (k := 10) (hC.step (j := 12) (k := 11) (hC.step (j := 16) (k := 12) (hC.step (j := 18) (k := 16) h (by kernel_rfl)) (by kernel_rfl)) (by kernel_rfl)) (by kernel_rfl)) (by kernel_rfl)) (by kernel_rfl))).elim
      · first | exact flag_ne (by decide) f19 | exact fun _ => rfl
    · refine StepAt.mk (o := { dst := some 13, op := Op.load 9 (Operand.tmp 12), type := 9, pos := _, after := #[{ on := 8, ground := Ground.data }], guard := none }) (ws := [8]) rfl (by kernel_rfl) ?_
      intro L b v hC h0 hA h
      refine h.elim ?_; clear h; intro u2 h
      refine h.elim ?_; clear h; intro u3 h
      refine h.elim ?_; clear h; intro u4 h
      refine h.elim ?_; clear h; intro u5 h
      refine h.elim ?_; clear h; intro u6 h
      refine h.elim ?_; clear h; intro u7 h
      refine h.elim ?_; clear h; intro u8 h
      refine h.elim ?_; clear h; intro u9 h
      refine h.elim ?_; clear h; intro u10 h
      refine h.elim ?_; clear h; intro u11 h
      refine h.elim ?_; clear h; intro u12 h
      refine h.elim ?_; clear h; intro u13 h
      refine h.elim ?_; clear h; intro u14 h
      refine h.elim ?_; clear h; intro u15 h
      refine h.elim ?_; clear h; intro u16 h
      refine h.elim ?_; clear h; intro u17 h
      refine h.elim ?_; clear h; intro u18 h
      refine h.elim ?_; clear h; intro u19 h
      refine h.elim ?_; clear h; intro u20 h
      refine h.elim ?_; clear h; intro u21 h
      have hbb := h.1; replace h := h.2; subst hbb
      have hHeld := h.1; replace h := h.2
      have f0 := h.1; replace h := h.2
      have f1 := h.1; replace h := h.2
      have f2 := h.1; replace h := h.2
      have f3 := h.1; replace h := h.2
      have f4 := h.1; replace h := h.2
      have f5 := h.1; replace h := h.2
      have f6 := h.1; replace h := h.2
      have f7 := h.1; replace h := h.2
      have f8 := h.1; replace h := h.2
      have f9 := h.1; replace h := h.2
      have f10 := h.1; replace h := h.2
      have f11 := h.1; replace h := h.2
      have f12 := h.1; replace h := h.2
      have f17 := h.1; replace h := h.2
      have f18 := h.1; replace h := h.2
      have f19 := h; clear h
      intro K hK
      have g8 := f8 (hA 8 (by simp))
      obtain rfl := g8
      rw [if_pos (by kernel_rfl)]
      have q0 := cellB hHeld C0 hz0
      have q1 := cellB hHeld C1 hz0
      go_simp
      try simp only [Act.put, List.setIfInBounds_toArray, List.set_cons_zero, List.set_cons_succ]
      refine hK.out _ _ ⟨_, _, _, _, _, _, _, _, _, _, _, _, _, _, _, _, _, _, _, _, rfl, ?_, ?_, ?_, ?_, ?_, ?_, ?_, ?_, ?_, ?_, ?_, ?_, ?_, ?_, ?_, ?_, ?_⟩
      · first | exact hHeld | exact hHeld.trans (hb.mono hHeld.size) | (trace_state; fail)
      · first | exact flag_ne (by decide) f0 | exact fun _ => rfl
      · first | exact flag_ne (by decide) f1 | exact fun _ => rfl
      · intro h h7; rw [getD_set_ne false (by decide)] at h; rw [getD_set_ne true (by decide)] at h7; have := f2 h h7; first | exact this | exact owns_below this hb | (trace_state; fail)
      · first | exact flag_ne (by decide) f3 | exact fun _ => rfl
      · first | exact flag_ne (by decide) f4 | exact fun _ => rfl
      · intro h; rw [getD_set_ne false (by decide)] at h; have := f5 h; obtain ⟨q, e1, e2⟩ := this; exact (by first | exact ⟨q, e1, e2⟩ | exact ⟨q, e1, owns_below e2 hb⟩ | exact ⟨q, e1, owns_grown e2 hG (fun g hg => owns_type e2 g2 (by decide) hg)⟩ | (trace_state; fail))
      · intro h h7; rw [getD_set_ne false (by decide)] at h; rw [getD_set_ne true (by decide)] at h7; have := f6 h h7; first | exact this | exact owns_below this hb | (trace_state; fail)
      · intro h; rw [getD_set_ne false (by decide)] at h; have := f7 h; first | exact this | exact owns_below this hb | (trace_state; fail)
      · first | exact flag_ne (by decide) f8 | exact fun _ => rfl
      · intro _; first | rfl | (trace_state; fail)
      · first | exact flag_ne (by decide) f10 | exact fun _ => rfl
      · first | exact flag_ne (by decide) f11 | exact fun _ => rfl
      · first | exact flag_ne (by decide) f12 | exact fun _ => rfl
      · first | exact flag_ne (by decide) f17 | exact fun _ => rfl
      · intro h; rw [getD_set_ne false (by decide)] at h; exact (getD_no h0 (hC.step (j := 10) (k := 9) (hC.step (j := 11) (k := 10) (hC.step (j := 12) (k := 11) (hC.step (j := 16) (k := 12) (hC.step (j := 18) (k := 16) h (by kernel_rfl)) (by kernel_rfl)) (by kernel_rfl)) (by kernel_rfl)) (by kernel_rfl))).elim
      · first | exact flag_ne (by decide) f19 | exact fun _ => rfl
    · refine StepAt.mk (o := { dst := some 14, op := Op.call { callee := Callee.builtin Builtin.len, args := #[Operand.tmp 13], argTypes := #[9] }, type := 3, pos := _, after := #[{ on := 9, ground := Ground.data }], guard := none }) (ws := [9]) rfl (by kernel_rfl) ?_
      intro L b v hC h0 hA h
      refine h.elim ?_; clear h; intro u2 h
      refine h.elim ?_; clear h; intro u3 h
      refine h.elim ?_; clear h; intro u4 h
      refine h.elim ?_; clear h; intro u5 h
      refine h.elim ?_; clear h; intro u6 h
      refine h.elim ?_; clear h; intro u7 h
      refine h.elim ?_; clear h; intro u8 h
      refine h.elim ?_; clear h; intro u9 h
      refine h.elim ?_; clear h; intro u10 h
      refine h.elim ?_; clear h; intro u11 h
      refine h.elim ?_; clear h; intro u12 h
      refine h.elim ?_; clear h; intro u13 h
      refine h.elim ?_; clear h; intro u14 h
      refine h.elim ?_; clear h; intro u15 h
      refine h.elim ?_; clear h; intro u16 h
      refine h.elim ?_; clear h; intro u17 h
      refine h.elim ?_; clear h; intro u18 h
      refine h.elim ?_; clear h; intro u19 h
      refine h.elim ?_; clear h; intro u20 h
      refine h.elim ?_; clear h; intro u21 h
      have hbb := h.1; replace h := h.2; subst hbb
      have hHeld := h.1; replace h := h.2
      have f0 := h.1; replace h := h.2
      have f1 := h.1; replace h := h.2
      have f2 := h.1; replace h := h.2
      have f3 := h.1; replace h := h.2
      have f4 := h.1; replace h := h.2
      have f5 := h.1; replace h := h.2
      have f6 := h.1; replace h := h.2
      have f7 := h.1; replace h := h.2
      have f8 := h.1; replace h := h.2
      have f9 := h.1; replace h := h.2
      have f10 := h.1; replace h := h.2
      have f11 := h.1; replace h := h.2
      have f12 := h.1; replace h := h.2
      have f17 := h.1; replace h := h.2
      have f18 := h.1; replace h := h.2
      have f19 := h; clear h
      intro K hK
      have g9 := f9 (hA 9 (by simp))
      obtain rfl := g9
      rw [if_pos (by kernel_rfl)]
      have q0 := cellB hHeld C0 hz0
      have q1 := cellB hHeld C1 hz0
      go_simp
      try simp only [Act.put, List.setIfInBounds_toArray, List.set_cons_zero, List.set_cons_succ]
      refine hK.out _ _ ⟨_, _, _, _, _, _, _, _, _, _, _, _, _, _, _, _, _, _, _, _, rfl, ?_, ?_, ?_, ?_, ?_, ?_, ?_, ?_, ?_, ?_, ?_, ?_, ?_, ?_, ?_, ?_, ?_⟩
      · first | exact hHeld | exact hHeld.trans (hb.mono hHeld.size) | (trace_state; fail)
      · first | exact flag_ne (by decide) f0 | exact fun _ => rfl
      · first | exact flag_ne (by decide) f1 | exact fun _ => rfl
      · intro h h7; rw [getD_set_ne false (by decide)] at h; rw [getD_set_ne true (by decide)] at h7; have := f2 h h7; first | exact this | exact owns_below this hb | (trace_state; fail)
      · first | exact flag_ne (by decide) f3 | exact fun _ => rfl
      · first | exact flag_ne (by decide) f4 | exact fun _ => rfl
      · intro h; rw [getD_set_ne false (by decide)] at h; have := f5 h; obtain ⟨q, e1, e2⟩ := this; exact (by first | exact ⟨q, e1, e2⟩ | exact ⟨q, e1, owns_below e2 hb⟩ | exact ⟨q, e1, owns_grown e2 hG (fun g hg => owns_type e2 g2 (by decide) hg)⟩ | (trace_state; fail))
      · intro h h7; rw [getD_set_ne false (by decide)] at h; rw [getD_set_ne true (by decide)] at h7; have := f6 h h7; first | exact this | exact owns_below this hb | (trace_state; fail)
      · intro h; rw [getD_set_ne false (by decide)] at h; have := f7 h; first | exact this | exact owns_below this hb | (trace_state; fail)
      · first | exact flag_ne (by decide) f8 | exact fun _ => rfl
      · first | exact flag_ne (by decide) f9 | exact fun _ => rfl
      · intro _; first | rfl | (trace_state; fail)
      · first | exact flag_ne (by decide) f11 | exact fun _ => rfl
      · first | exact flag_ne (by decide) f12 | exact fun _ => rfl
      · first | exact flag_ne (by decide) f17 | exact fun _ => rfl
      · intro h; rw [getD_set_ne false (by decide)] at h; exact (getD_no h0 (hC.step (j := 11) (k := 10) (hC.step (j := 12) (k := 11) (hC.step (j := 16) (k := 12) (hC.step (j := 18) (k := 16) h (by kernel_rfl)) (by kernel_rfl)) (by kernel_rfl)) (by kernel_rfl))).elim
      · first | exact flag_ne (by decide) f19 | exact fun _ => rfl
    · refine StepAt.mk (o := { dst := some 15, op := Op.binOp BinOp.leq 3 (Operand.tmp 14) (Operand.const (Value.int IntKind.i64 255)) 3, type := 4, pos := _, after := #[{ on := 10, ground := Ground.data }], guard := none }) (ws := [10]) rfl (by kernel_rfl) ?_
      intro L b v hC h0 hA h
      refine h.elim ?_; clear h; intro u2 h
      refine h.elim ?_; clear h; intro u3 h
      refine h.elim ?_; clear h; intro u4 h
      refine h.elim ?_; clear h; intro u5 h
      refine h.elim ?_; clear h; intro u6 h
      refine h.elim ?_; clear h; intro u7 h
      refine h.elim ?_; clear h; intro u8 h
      refine h.elim ?_; clear h; intro u9 h
      refine h.elim ?_; clear h; intro u10 h
      refine h.elim ?_; clear h; intro u11 h
      refine h.elim ?_; clear h; intro u12 h
      refine h.elim ?_; clear h; intro u13 h
      refine h.elim ?_; clear h; intro u14 h
      refine h.elim ?_; clear h; intro u15 h
      refine h.elim ?_; clear h; intro u16 h
      refine h.elim ?_; clear h; intro u17 h
      refine h.elim ?_; clear h; intro u18 h
      refine h.elim ?_; clear h; intro u19 h
      refine h.elim ?_; clear h; intro u20 h
      refine h.elim ?_; clear h; intro u21 h
      have hbb := h.1; replace h := h.2; subst hbb
      have hHeld := h.1; replace h := h.2
      have f0 := h.1; replace h := h.2
      have f1 := h.1; replace h := h.2
      have f2 := h.1; replace h := h.2
      have f3 := h.1; replace h := h.2
      have f4 := h.1; replace h := h.2
      have f5 := h.1; replace h := h.2
      have f6 := h.1; replace h := h.2
      have f7 := h.1; replace h := h.2
      have f8 := h.1; replace h := h.2
      have f9 := h.1; replace h := h.2
      have f10 := h.1; replace h := h.2
      have f11 := h.1; replace h := h.2
      have f12 := h.1; replace h := h.2
      have f17 := h.1; replace h := h.2
      have f18 := h.1; replace h := h.2
      have f19 := h; clear h
      intro K hK
      have g10 := f10 (hA 10 (by simp))
      obtain rfl := g10
      rw [if_pos (by kernel_rfl)]
      have q0 := cellB hHeld C0 hz0
      have q1 := cellB hHeld C1 hz0
      go_simp
      try simp only [Act.put, List.setIfInBounds_toArray, List.set_cons_zero, List.set_cons_succ]
      refine hK.out _ _ ⟨_, _, _, _, _, _, _, _, _, _, _, _, _, _, _, _, _, _, _, _, rfl, ?_, ?_, ?_, ?_, ?_, ?_, ?_, ?_, ?_, ?_, ?_, ?_, ?_, ?_, ?_, ?_, ?_⟩
      · first | exact hHeld | exact hHeld.trans (hb.mono hHeld.size) | (trace_state; fail)
      · first | exact flag_ne (by decide) f0 | exact fun _ => rfl
      · first | exact flag_ne (by decide) f1 | exact fun _ => rfl
      · intro h h7; rw [getD_set_ne false (by decide)] at h; rw [getD_set_ne true (by decide)] at h7; have := f2 h h7; first | exact this | exact owns_below this hb | (trace_state; fail)
      · first | exact flag_ne (by decide) f3 | exact fun _ => rfl
      · first | exact flag_ne (by decide) f4 | exact fun _ => rfl
      · intro h; rw [getD_set_ne false (by decide)] at h; have := f5 h; obtain ⟨q, e1, e2⟩ := this; exact (by first | exact ⟨q, e1, e2⟩ | exact ⟨q, e1, owns_below e2 hb⟩ | exact ⟨q, e1, owns_grown e2 hG (fun g hg => owns_type e2 g2 (by decide) hg)⟩ | (trace_state; fail))
      · intro h h7; rw [getD_set_ne false (by decide)] at h; rw [getD_set_ne true (by decide)] at h7; have := f6 h h7; first | exact this | exact owns_below this hb | (trace_state; fail)
      · intro h; rw [getD_set_ne false (by decide)] at h; have := f7 h; first | exact this | exact owns_below this hb | (trace_state; fail)
      · first | exact flag_ne (by decide) f8 | exact fun _ => rfl
      · first | exact flag_ne (by decide) f9 | exact fun _ => rfl
      · first | exact flag_ne (by decide) f10 | exact fun _ => rfl
      · intro _; first | rfl | (trace_state; fail)
      · first | exact flag_ne (by decide) f12 | exact fun _ => rfl
      · first | exact flag_ne (by decide) f17 | exact fun _ => rfl
      · intro h; rw [getD_set_ne false (by decide)] at h; exact (getD_no h0 (hC.step (j := 12) (k := 11) (hC.step (j := 16) (k := 12) (hC.step (j := 18) (k := 16) h (by kernel_rfl)) (by kernel_rfl)) (by kernel_rfl))).elim
      · first | exact flag_ne (by decide) f19 | exact fun _ => rfl
    · refine StepAt.mk (o := { dst := some 16, op := Op.move (Operand.tmp 15), type := 4, pos := _, after := #[{ on := 11, ground := Ground.data }, { on := 7, ground := Ground.chain }], guard := none }) (ws := [11, 7]) rfl (by kernel_rfl) ?_
      intro L b v hC h0 hA h
      refine h.elim ?_; clear h; intro u2 h
      refine h.elim ?_; clear h; intro u3 h
      refine h.elim ?_; clear h; intro u4 h
      refine h.elim ?_; clear h; intro u5 h
      refine h.elim ?_; clear h; intro u6 h
      refine h.elim ?_; clear h; intro u7 h
      refine h.elim ?_; clear h; intro u8 h
      refine h.elim ?_; clear h; intro u9 h
      refine h.elim ?_; clear h; intro u10 h
      refine h.elim ?_; clear h; intro u11 h
      refine h.elim ?_; clear h; intro u12 h
      refine h.elim ?_; clear h; intro u13 h
      refine h.elim ?_; clear h; intro u14 h
      refine h.elim ?_; clear h; intro u15 h
      refine h.elim ?_; clear h; intro u16 h
      refine h.elim ?_; clear h; intro u17 h
      refine h.elim ?_; clear h; intro u18 h
      refine h.elim ?_; clear h; intro u19 h
      refine h.elim ?_; clear h; intro u20 h
      refine h.elim ?_; clear h; intro u21 h
      have hbb := h.1; replace h := h.2; subst hbb
      have hHeld := h.1; replace h := h.2
      have f0 := h.1; replace h := h.2
      have f1 := h.1; replace h := h.2
      have f2 := h.1; replace h := h.2
      have f3 := h.1; replace h := h.2
      have f4 := h.1; replace h := h.2
      have f5 := h.1; replace h := h.2
      have f6 := h.1; replace h := h.2
      have f7 := h.1; replace h := h.2
      have f8 := h.1; replace h := h.2
      have f9 := h.1; replace h := h.2
      have f10 := h.1; replace h := h.2
      have f11 := h.1; replace h := h.2
      have f12 := h.1; replace h := h.2
      have f17 := h.1; replace h := h.2
      have f18 := h.1; replace h := h.2
      have f19 := h; clear h
      intro K hK
      have g11 := f11 (hA 11 (by simp))
      obtain rfl := g11
      have g7 := f7 (hA 7 (by simp))
      rw [if_pos (by kernel_rfl)]
      have q0 := cellB hHeld C0 hz0
      have q1 := cellB hHeld C1 hz0
      go_simp
      try simp only [Act.put, List.setIfInBounds_toArray, List.set_cons_zero, List.set_cons_succ]
      refine hK.out _ _ ⟨_, _, _, _, _, _, _, _, _, _, _, _, _, _, _, _, _, _, _, _, rfl, ?_, ?_, ?_, ?_, ?_, ?_, ?_, ?_, ?_, ?_, ?_, ?_, ?_, ?_, ?_, ?_, ?_⟩
      · first | exact hHeld | exact hHeld.trans (hb.mono hHeld.size) | (trace_state; fail)
      · first | exact flag_ne (by decide) f0 | exact fun _ => rfl
      · first | exact flag_ne (by decide) f1 | exact fun _ => rfl
      · intro _ h7; rw [getD_set_ne true (by decide)] at h7; exact (getD_no h7 (hA 7 (by simp))).elim
      · first | exact flag_ne (by decide) f3 | exact fun _ => rfl
      · first | exact flag_ne (by decide) f4 | exact fun _ => rfl
      · intro h; rw [getD_set_ne false (by decide)] at h; have := f5 h; obtain ⟨q, e1, e2⟩ := this; exact (by first | exact ⟨q, e1, e2⟩ | exact ⟨q, e1, owns_below e2 hb⟩ | exact ⟨q, e1, owns_grown e2 hG (fun g hg => owns_type e2 g2 (by decide) hg)⟩ | (trace_state; fail))
      · intro _ h7; rw [getD_set_ne true (by decide)] at h7; exact (getD_no h7 (hA 7 (by simp))).elim
      · intro h; rw [getD_set_ne false (by decide)] at h; have := f7 h; first | exact this | exact owns_below this hb | (trace_state; fail)
      · first | exact flag_ne (by decide) f8 | exact fun _ => rfl
      · first | exact flag_ne (by decide) f9 | exact fun _ => rfl
      · first | exact flag_ne (by decide) f10 | exact fun _ => rfl
      · first | exact flag_ne (by decide) f11 | exact fun _ => rfl
      · intro _; first | rfl | (trace_state; fail)
      · first | exact flag_ne (by decide) f17 | exact fun _ => rfl
      · intro h; rw [getD_set_ne false (by decide)] at h; exact (getD_no h0 (hC.step (j := 16) (k := 12) (hC.step (j := 18) (k := 16) h (by kernel_rfl)) (by kernel_rfl))).elim
      · first | exact flag_ne (by decide) f19 | exact fun _ => rfl
    · refine StepAt.mk (o := { dst := some 17, op := Op.fieldAddr 43 (Operand.tmp 1) 1, type := 0, pos := _, after := #[{ on := 12, ground := Ground.guard }], guard := some (12, true) }) (ws := [12]) rfl (by kernel_rfl) ?_
      intro L b v hC h0 hA h
      refine h.elim ?_; clear h; intro u2 h
      refine h.elim ?_; clear h; intro u3 h
      refine h.elim ?_; clear h; intro u4 h
      refine h.elim ?_; clear h; intro u5 h
      refine h.elim ?_; clear h; intro u6 h
      refine h.elim ?_; clear h; intro u7 h
      refine h.elim ?_; clear h; intro u8 h
      refine h.elim ?_; clear h; intro u9 h
      refine h.elim ?_; clear h; intro u10 h
      refine h.elim ?_; clear h; intro u11 h
      refine h.elim ?_; clear h; intro u12 h
      refine h.elim ?_; clear h; intro u13 h
      refine h.elim ?_; clear h; intro u14 h
      refine h.elim ?_; clear h; intro u15 h
      refine h.elim ?_; clear h; intro u16 h
      refine h.elim ?_; clear h; intro u17 h
      refine h.elim ?_; clear h; intro u18 h
      refine h.elim ?_; clear h; intro u19 h
      refine h.elim ?_; clear h; intro u20 h
      refine h.elim ?_; clear h; intro u21 h
      have hbb := h.1; replace h := h.2; subst hbb
      have hHeld := h.1; replace h := h.2
      have f0 := h.1; replace h := h.2
      have f1 := h.1; replace h := h.2
      have f2 := h.1; replace h := h.2
      have f3 := h.1; replace h := h.2
      have f4 := h.1; replace h := h.2
      have f5 := h.1; replace h := h.2
      have f6 := h.1; replace h := h.2
      have f7 := h.1; replace h := h.2
      have f8 := h.1; replace h := h.2
      have f9 := h.1; replace h := h.2
      have f10 := h.1; replace h := h.2
      have f11 := h.1; replace h := h.2
      have f12 := h.1; replace h := h.2
      have f17 := h.1; replace h := h.2
      have f18 := h.1; replace h := h.2
      have f19 := h; clear h
      intro K hK
      have g12 := f12 (hA 12 (by simp))
      obtain rfl := g12
      rw [if_neg (Bool.eq_false_iff.1 (by kernel_rfl))]
      try simp only [Act.put, List.setIfInBounds_toArray, List.set_cons_zero, List.set_cons_succ]
      refine hK.out _ _ ⟨_, _, _, _, _, _, _, _, _, _, _, _, _, _, _, _, _, _, _, _, rfl, ?_, ?_, ?_, ?_, ?_, ?_, ?_, ?_, ?_, ?_, ?_, ?_, ?_, ?_, ?_, ?_, ?_⟩
      · first | exact hHeld | exact hHeld.trans (hb.mono hHeld.size) | (trace_state; fail)
      · first | exact flag_ne (by decide) f0 | exact fun _ => rfl
      · first | exact flag_ne (by decide) f1 | exact fun _ => rfl
      · intro _ h7; rw [getD_set_ne true (by decide)] at h7; exact (getD_no h7 (hC.step (j := 12) (k := 7) (hA 12 (by simp)) (by kernel_rfl))).elim
      · first | exact flag_ne (by decide) f3 | exact fun _ => rfl
      · first | exact flag_ne (by decide) f4 | exact fun _ => rfl
      · intro h; rw [getD_set_ne false (by decide)] at h; have := f5 h; obtain ⟨q, e1, e2⟩ := this; exact (by first | exact ⟨q, e1, e2⟩ | exact ⟨q, e1, owns_below e2 hb⟩ | exact ⟨q, e1, owns_grown e2 hG (fun g hg => owns_type e2 g2 (by decide) hg)⟩ | (trace_state; fail))
      · intro _ h7; rw [getD_set_ne true (by decide)] at h7; exact (getD_no h7 (hC.step (j := 12) (k := 7) (hA 12 (by simp)) (by kernel_rfl))).elim
      · intro h; rw [getD_set_ne false (by decide)] at h; have := f7 h; first | exact this | exact owns_below this hb | (trace_state; fail)
      · first | exact flag_ne (by decide) f8 | exact fun _ => rfl
      · first | exact flag_ne (by decide) f9 | exact fun _ => rfl
      · first | exact flag_ne (by decide) f10 | exact fun _ => rfl
      · first | exact flag_ne (by decide) f11 | exact fun _ => rfl
      · first | exact flag_ne (by decide) f12 | exact fun _ => rfl
      · first | exact flag_ne (by decide) f17 | exact fun _ => rfl
      · intro h; rw [getD_set_ne false (by decide)] at h; exact (getD_no h0 (hC.step (j := 14) (k := 13) (hC.step (j := 15) (k := 14) (hC.step (j := 16) (k := 15) (hC.step (j := 18) (k := 16) h (by kernel_rfl)) (by kernel_rfl)) (by kernel_rfl)) (by kernel_rfl))).elim
      · first | exact flag_ne (by decide) f19 | exact fun _ => rfl
    · refine StepAt.mk (o := { dst := some 18, op := Op.load 3 (Operand.tmp 17), type := 3, pos := _, after := #[{ on := 13, ground := Ground.data }, { on := 12, ground := Ground.guard }], guard := some (12, true) }) (ws := [13, 12]) rfl (by kernel_rfl) ?_
      intro L b v hC h0 hA h
      refine h.elim ?_; clear h; intro u2 h
      refine h.elim ?_; clear h; intro u3 h
      refine h.elim ?_; clear h; intro u4 h
      refine h.elim ?_; clear h; intro u5 h
      refine h.elim ?_; clear h; intro u6 h
      refine h.elim ?_; clear h; intro u7 h
      refine h.elim ?_; clear h; intro u8 h
      refine h.elim ?_; clear h; intro u9 h
      refine h.elim ?_; clear h; intro u10 h
      refine h.elim ?_; clear h; intro u11 h
      refine h.elim ?_; clear h; intro u12 h
      refine h.elim ?_; clear h; intro u13 h
      refine h.elim ?_; clear h; intro u14 h
      refine h.elim ?_; clear h; intro u15 h
      refine h.elim ?_; clear h; intro u16 h
      refine h.elim ?_; clear h; intro u17 h
      refine h.elim ?_; clear h; intro u18 h
      refine h.elim ?_; clear h; intro u19 h
      refine h.elim ?_; clear h; intro u20 h
      refine h.elim ?_; clear h; intro u21 h
      have hbb := h.1; replace h := h.2; subst hbb
      have hHeld := h.1; replace h := h.2
      have f0 := h.1; replace h := h.2
      have f1 := h.1; replace h := h.2
      have f2 := h.1; replace h := h.2
      have f3 := h.1; replace h := h.2
      have f4 := h.1; replace h := h.2
      have f5 := h.1; replace h := h.2
      have f6 := h.1; replace h := h.2
      have f7 := h.1; replace h := h.2
      have f8 := h.1; replace h := h.2
      have f9 := h.1; replace h := h.2
      have f10 := h.1; replace h := h.2
      have f11 := h.1; replace h := h.2
      have f12 := h.1; replace h := h.2
      have f17 := h.1; replace h := h.2
      have f18 := h.1; replace h := h.2
      have f19 := h; clear h
      intro K hK
      have g12 := f12 (hA 12 (by simp))
      obtain rfl := g12
      rw [if_neg (Bool.eq_false_iff.1 (by kernel_rfl))]
      try simp only [Act.put, List.setIfInBounds_toArray, List.set_cons_zero, List.set_cons_succ]
      refine hK.out _ _ ⟨_, _, _, _, _, _, _, _, _, _, _, _, _, _, _, _, _, _, _, _, rfl, ?_, ?_, ?_, ?_, ?_, ?_, ?_, ?_, ?_, ?_, ?_, ?_, ?_, ?_, ?_, ?_, ?_⟩
      · first | exact hHeld | exact hHeld.trans (hb.mono hHeld.size) | (trace_state; fail)
      · first | exact flag_ne (by decide) f0 | exact fun _ => rfl
      · first | exact flag_ne (by decide) f1 | exact fun _ => rfl
      · intro _ h7; rw [getD_set_ne true (by decide)] at h7; exact (getD_no h7 (hC.step (j := 12) (k := 7) (hA 12 (by simp)) (by kernel_rfl))).elim
      · first | exact flag_ne (by decide) f3 | exact fun _ => rfl
      · first | exact flag_ne (by decide) f4 | exact fun _ => rfl
      · intro h; rw [getD_set_ne false (by decide)] at h; have := f5 h; obtain ⟨q, e1, e2⟩ := this; exact (by first | exact ⟨q, e1, e2⟩ | exact ⟨q, e1, owns_below e2 hb⟩ | exact ⟨q, e1, owns_grown e2 hG (fun g hg => owns_type e2 g2 (by decide) hg)⟩ | (trace_state; fail))
      · intro _ h7; rw [getD_set_ne true (by decide)] at h7; exact (getD_no h7 (hC.step (j := 12) (k := 7) (hA 12 (by simp)) (by kernel_rfl))).elim
      · intro h; rw [getD_set_ne false (by decide)] at h; have := f7 h; first | exact this | exact owns_below this hb | (trace_state; fail)
      · first | exact flag_ne (by decide) f8 | exact fun _ => rfl
      · first | exact flag_ne (by decide) f9 | exact fun _ => rfl
      · first | exact flag_ne (by decide) f10 | exact fun _ => rfl
      · first | exact flag_ne (by decide) f11 | exact fun _ => rfl
      · first | exact flag_ne (by decide) f12 | exact fun _ => rfl
      · first | exact flag_ne (by decide) f17 | exact fun _ => rfl
      · intro h; rw [getD_set_ne false (by decide)] at h; exact (getD_no h0 (hC.step (j := 15) (k := 14) (hC.step (j := 16) (k := 15) (hC.step (j := 18) (k := 16) h (by kernel_rfl)) (by kernel_rfl)) (by kernel_rfl))).elim
      · first | exact flag_ne (by decide) f19 | exact fun _ => rfl
    · refine StepAt.mk (o := { dst := some 19, op := Op.buildSlice 45 1 #[(0, Operand.tmp 18)], type := 45, pos := _, after := #[{ on := 14, ground := Ground.data }, { on := 12, ground := Ground.guard }], guard := some (12, true) }) (ws := [14, 12]) rfl (by kernel_rfl) ?_
      intro L b v hC h0 hA h
      refine h.elim ?_; clear h; intro u2 h
      refine h.elim ?_; clear h; intro u3 h
      refine h.elim ?_; clear h; intro u4 h
      refine h.elim ?_; clear h; intro u5 h
      refine h.elim ?_; clear h; intro u6 h
      refine h.elim ?_; clear h; intro u7 h
      refine h.elim ?_; clear h; intro u8 h
      refine h.elim ?_; clear h; intro u9 h
      refine h.elim ?_; clear h; intro u10 h
      refine h.elim ?_; clear h; intro u11 h
      refine h.elim ?_; clear h; intro u12 h
      refine h.elim ?_; clear h; intro u13 h
      refine h.elim ?_; clear h; intro u14 h
      refine h.elim ?_; clear h; intro u15 h
      refine h.elim ?_; clear h; intro u16 h
      refine h.elim ?_; clear h; intro u17 h
      refine h.elim ?_; clear h; intro u18 h
      refine h.elim ?_; clear h; intro u19 h
      refine h.elim ?_; clear h; intro u20 h
      refine h.elim ?_; clear h; intro u21 h
      have hbb := h.1; replace h := h.2; subst hbb
      have hHeld := h.1; replace h := h.2
      have f0 := h.1; replace h := h.2
      have f1 := h.1; replace h := h.2
      have f2 := h.1; replace h := h.2
      have f3 := h.1; replace h := h.2
      have f4 := h.1; replace h := h.2
      have f5 := h.1; replace h := h.2
      have f6 := h.1; replace h := h.2
      have f7 := h.1; replace h := h.2
      have f8 := h.1; replace h := h.2
      have f9 := h.1; replace h := h.2
      have f10 := h.1; replace h := h.2
      have f11 := h.1; replace h := h.2
      have f12 := h.1; replace h := h.2
      have f17 := h.1; replace h := h.2
      have f18 := h.1; replace h := h.2
      have f19 := h; clear h
      intro K hK
      have g12 := f12 (hA 12 (by simp))
      obtain rfl := g12
      rw [if_neg (Bool.eq_false_iff.1 (by kernel_rfl))]
      try simp only [Act.put, List.setIfInBounds_toArray, List.set_cons_zero, List.set_cons_succ]
      refine hK.out _ _ ⟨_, _, _, _, _, _, _, _, _, _, _, _, _, _, _, _, _, _, _, _, rfl, ?_, ?_, ?_, ?_, ?_, ?_, ?_, ?_, ?_, ?_, ?_, ?_, ?_, ?_, ?_, ?_, ?_⟩
      · first | exact hHeld | exact hHeld.trans (hb.mono hHeld.size) | (trace_state; fail)
      · first | exact flag_ne (by decide) f0 | exact fun _ => rfl
      · first | exact flag_ne (by decide) f1 | exact fun _ => rfl
      · intro _ h7; rw [getD_set_ne true (by decide)] at h7; exact (getD_no h7 (hC.step (j := 12) (k := 7) (hA 12 (by simp)) (by kernel_rfl))).elim
      · first | exact flag_ne (by decide) f3 | exact fun _ => rfl
      · first | exact flag_ne (by decide) f4 | exact fun _ => rfl
      · intro h; rw [getD_set_ne false (by decide)] at h; have := f5 h; obtain ⟨q, e1, e2⟩ := this; exact (by first | exact ⟨q, e1, e2⟩ | exact ⟨q, e1, owns_below e2 hb⟩ | exact ⟨q, e1, owns_grown e2 hG (fun g hg => owns_type e2 g2 (by decide) hg)⟩ | (trace_state; fail))
      · intro _ h7; rw [getD_set_ne true (by decide)] at h7; exact (getD_no h7 (hC.step (j := 12) (k := 7) (hA 12 (by simp)) (by kernel_rfl))).elim
      · intro h; rw [getD_set_ne false (by decide)] at h; have := f7 h; first | exact this | exact owns_below this hb | (trace_state; fail)
      · first | exact flag_ne (by decide) f8 | exact fun _ => rfl
      · first | exact flag_ne (by decide) f9 | exact fun _ => rfl
      · first | exact flag_ne (by decide) f10 | exact fun _ => rfl
      · first | exact flag_ne (by decide) f11 | exact fun _ => rfl
      · first | exact flag_ne (by decide) f12 | exact fun _ => rfl
      · first | exact flag_ne (by decide) f17 | exact fun _ => rfl
      · intro h; rw [getD_set_ne false (by decide)] at h; exact (getD_no h0 (hC.step (j := 16) (k := 15) (hC.step (j := 18) (k := 16) h (by kernel_rfl)) (by kernel_rfl))).elim
      · first | exact flag_ne (by decide) f19 | exact fun _ => rfl
    · refine StepAt.mk (o := { dst := some 20, op := Op.call { callee := Callee.value (Operand.func 48), args := #[Operand.tmp 19], argTypes := #[45] }, type := 4, pos := _, after := #[{ on := 15, ground := Ground.data }, { on := 12, ground := Ground.chain }, { on := 12, ground := Ground.guard }], guard := some (12, true) }) (ws := [15, 12, 12]) rfl (by kernel_rfl) ?_
      intro L b v hC h0 hA h
      refine h.elim ?_; clear h; intro u2 h
      refine h.elim ?_; clear h; intro u3 h
      refine h.elim ?_; clear h; intro u4 h
      refine h.elim ?_; clear h; intro u5 h
      refine h.elim ?_; clear h; intro u6 h
      refine h.elim ?_; clear h; intro u7 h
      refine h.elim ?_; clear h; intro u8 h
      refine h.elim ?_; clear h; intro u9 h
      refine h.elim ?_; clear h; intro u10 h
      refine h.elim ?_; clear h; intro u11 h
      refine h.elim ?_; clear h; intro u12 h
      refine h.elim ?_; clear h; intro u13 h
      refine h.elim ?_; clear h; intro u14 h
      refine h.elim ?_; clear h; intro u15 h
      refine h.elim ?_; clear h; intro u16 h
      refine h.elim ?_; clear h; intro u17 h
      refine h.elim ?_; clear h; intro u18 h
      refine h.elim ?_; clear h; intro u19 h
      refine h.elim ?_; clear h; intro u20 h
      refine h.elim ?_; clear h; intro u21 h
      have hbb := h.1; replace h := h.2; subst hbb
      have hHeld := h.1; replace h := h.2
      have f0 := h.1; replace h := h.2
      have f1 := h.1; replace h := h.2
      have f2 := h.1; replace h := h.2
      have f3 := h.1; replace h := h.2
      have f4 := h.1; replace h := h.2
      have f5 := h.1; replace h := h.2
      have f6 := h.1; replace h := h.2
      have f7 := h.1; replace h := h.2
      have f8 := h.1; replace h := h.2
      have f9 := h.1; replace h := h.2
      have f10 := h.1; replace h := h.2
      have f11 := h.1; replace h := h.2
      have f12 := h.1; replace h := h.2
      have f17 := h.1; replace h := h.2
      have f18 := h.1; replace h := h.2
      have f19 := h; clear h
      intro K hK
      have g12 := f12 (hA 12 (by simp))
      obtain rfl := g12
      rw [if_neg (Bool.eq_false_iff.1 (by kernel_rfl))]
      try simp only [Act.put, List.setIfInBounds_toArray, List.set_cons_zero, List.set_cons_succ]
      refine hK.out _ _ ⟨_, _, _, _, _, _, _, _, _, _, _, _, _, _, _, _, _, _, _, _, rfl, ?_, ?_, ?_, ?_, ?_, ?_, ?_, ?_, ?_, ?_, ?_, ?_, ?_, ?_, ?_, ?_, ?_⟩
      · first | exact hHeld | exact hHeld.trans (hb.mono hHeld.size) | (trace_state; fail)
      · first | exact flag_ne (by decide) f0 | exact fun _ => rfl
      · first | exact flag_ne (by decide) f1 | exact fun _ => rfl
      · intro _ h7; rw [getD_set_ne true (by decide)] at h7; exact (getD_no h7 (hC.step (j := 12) (k := 7) (hA 12 (by simp)) (by kernel_rfl))).elim
      · first | exact flag_ne (by decide) f3 | exact fun _ => rfl
      · first | exact flag_ne (by decide) f4 | exact fun _ => rfl
      · intro h; rw [getD_set_ne false (by decide)] at h; have := f5 h; obtain ⟨q, e1, e2⟩ := this; exact (by first | exact ⟨q, e1, e2⟩ | exact ⟨q, e1, owns_below e2 hb⟩ | exact ⟨q, e1, owns_grown e2 hG (fun g hg => owns_type e2 g2 (by decide) hg)⟩ | (trace_state; fail))
      · intro _ h7; rw [getD_set_ne true (by decide)] at h7; exact (getD_no h7 (hC.step (j := 12) (k := 7) (hA 12 (by simp)) (by kernel_rfl))).elim
      · intro h; rw [getD_set_ne false (by decide)] at h; have := f7 h; first | exact this | exact owns_below this hb | (trace_state; fail)
      · first | exact flag_ne (by decide) f8 | exact fun _ => rfl
      · first | exact flag_ne (by decide) f9 | exact fun _ => rfl
      · first | exact flag_ne (by decide) f10 | exact fun _ => rfl
      · first | exact flag_ne (by decide) f11 | exact fun _ => rfl
      · first | exact flag_ne (by decide) f12 | exact fun _ => rfl
      · first | exact flag_ne (by decide) f17 | exact fun _ => rfl
      · intro h; rw [getD_set_ne false (by decide)] at h; exact (getD_no h0 (hC.step (j := 18) (k := 16) h (by kernel_rfl))).elim
      · first | exact flag_ne (by decide) f19 | exact fun _ => rfl
    · refine StepAt.mk (o := { dst := some 21, op := Op.pick (Operand.tmp 16) (Operand.tmp 20) (Operand.const (Value.bool false)), type := 4, pos := _, after := #[{ on := 12, ground := Ground.data }, { on := 16, ground := Ground.data }, { on := 18, ground := Ground.gcOnly Departure.lateStores }], guard := none }) (ws := [12, 16]) rfl (by kernel_rfl) ?_
      intro L b v hC h0 hA h
      refine h.elim ?_; clear h; intro u2 h
      refine h.elim ?_; clear h; intro u3 h
      refine h.elim ?_; clear h; intro u4 h
      refine h.elim ?_; clear h; intro u5 h
      refine h.elim ?_; clear h; intro u6 h
      refine h.elim ?_; clear h; intro u7 h
      refine h.elim ?_; clear h; intro u8 h
      refine h.elim ?_; clear h; intro u9 h
      refine h.elim ?_; clear h; intro u10 h
      refine h.elim ?_; clear h; intro u11 h
      refine h.elim ?_; clear h; intro u12 h
      refine h.elim ?_; clear h; intro u13 h
      refine h.elim ?_; clear h; intro u14 h
      refine h.elim ?_; clear h; intro u15 h
      refine h.elim ?_; clear h; intro u16 h
      refine h.elim ?_; clear h; intro u17 h
      refine h.elim ?_; clear h; intro u18 h
      refine h.elim ?_; clear h; intro u19 h
      refine h.elim ?_; clear h; intro u20 h
      refine h.elim ?_; clear h; intro u21 h
      have hbb := h.1; replace h := h.2; subst hbb
      have hHeld := h.1; replace h := h.2
      have f0 := h.1; replace h := h.2
      have f1 := h.1; replace h := h.2
      have f2 := h.1; replace h := h.2
      have f3 := h.1; replace h := h.2
      have f4 := h.1; replace h := h.2
      have f5 := h.1; replace h := h.2
      have f6 := h.1; replace h := h.2
      have f7 := h.1; replace h := h.2
      have f8 := h.1; replace h := h.2
      have f9 := h.1; replace h := h.2
      have f10 := h.1; replace h := h.2
      have f11 := h.1; replace h := h.2
      have f12 := h.1; replace h := h.2
      have f17 := h.1; replace h := h.2
      have f18 := h.1; replace h := h.2
      have f19 := h; clear h
      intro K hK
      have g12 := f12 (hA 12 (by simp))
      obtain rfl := g12
      rw [if_pos (by kernel_rfl)]
      have q0 := cellB hHeld C0 hz0
      have q1 := cellB hHeld C1 hz0
      go_simp
      try simp only [Act.put, List.setIfInBounds_toArray, List.set_cons_zero, List.set_cons_succ]
      refine hK.out _ _ ⟨_, _, _, _, _, _, _, _, _, _, _, _, _, _, _, _, _, _, _, _, rfl, ?_, ?_, ?_, ?_, ?_, ?_, ?_, ?_, ?_, ?_, ?_, ?_, ?_, ?_, ?_, ?_, ?_⟩
      · first | exact hHeld | exact hHeld.trans (hb.mono hHeld.size) | (trace_state; fail)
      · first | exact flag_ne (by decide) f0 | exact fun _ => rfl
      · first | exact flag_ne (by decide) f1 | exact fun _ => rfl
      · intro _ h7; rw [getD_set_ne true (by decide)] at h7; exact (getD_no h7 (hC.step (j := 12) (k := 7) (hA 12 (by simp)) (by kernel_rfl))).elim
      · first | exact flag_ne (by decide) f3 | exact fun _ => rfl
      · first | exact flag_ne (by decide) f4 | exact fun _ => rfl
      · intro h; rw [getD_set_ne false (by decide)] at h; have := f5 h; obtain ⟨q, e1, e2⟩ := this; exact (by first | exact ⟨q, e1, e2⟩ | exact ⟨q, e1, owns_below e2 hb⟩ | exact ⟨q, e1, owns_grown e2 hG (fun g hg => owns_type e2 g2 (by decide) hg)⟩ | (trace_state; fail))
      · intro _ h7; rw [getD_set_ne true (by decide)] at h7; exact (getD_no h7 (hC.step (j := 12) (k := 7) (hA 12 (by simp)) (by kernel_rfl))).elim
      · intro h; rw [getD_set_ne false (by decide)] at h; have := f7 h; first | exact this | exact owns_below this hb | (trace_state; fail)
      · first | exact flag_ne (by decide) f8 | exact fun _ => rfl
      · first | exact flag_ne (by decide) f9 | exact fun _ => rfl
      · first | exact flag_ne (by decide) f10 | exact fun _ => rfl
      · first | exact flag_ne (by decide) f11 | exact fun _ => rfl
      · first | exact flag_ne (by decide) f12 | exact fun _ => rfl
      · intro _; first | rfl | (trace_state; fail)
      · intro h; rw [getD_set_ne false (by decide)] at h; have := f18 h; first | exact this | exact owns_below this hb | (trace_state; fail)
      · first | exact flag_ne (by decide) f19 | exact fun _ => rfl
    · refine StepAt.mk (o := { dst := some 2, op := Op.assign (Operand.tmp 11), type := 30, pos := _, after := #[{ on := 7, ground := Ground.data }, { on := 16, ground := Ground.chain }, { on := 0, ground := Ground.phase }, { on := 1, ground := Ground.phase }, { on := 2, ground := Ground.phase }, { on := 3, ground := Ground.phase }, { on := 4, ground := Ground.phase }, { on := 5, ground := Ground.phase }, { on := 6, ground := Ground.phase }, { on := 7, ground := Ground.phase }, { on := 8, ground := Ground.textOnly Departure.lateStores }, { on := 9, ground := Ground.textOnly Departure.lateStores }, { on := 10, ground := Ground.textOnly Departure.lateStoresUnsure }, { on := 11, ground := Ground.textOnly Departure.lateStores }, { on := 12, ground := Ground.textOnly Departure.lateStores }, { on := 13, ground := Ground.textOnly Departure.lateStores }, { on := 14, ground := Ground.textOnly Departure.lateStores }, { on := 15, ground := Ground.textOnly Departure.lateStores }, { on := 16, ground := Ground.textOnly Departure.lateStoresUnsure }, { on := 17, ground := Ground.textOnly Departure.lateStores }], guard := none }) (ws := [7, 16, 0, 1, 2, 3, 4, 5, 6, 7]) rfl (by kernel_rfl) ?_
      intro L b v hC h0 hA h
      refine h.elim ?_; clear h; intro u2 h
      refine h.elim ?_; clear h; intro u3 h
      refine h.elim ?_; clear h; intro u4 h
      refine h.elim ?_; clear h; intro u5 h
      refine h.elim ?_; clear h; intro u6 h
      refine h.elim ?_; clear h; intro u7 h
      refine h.elim ?_; clear h; intro u8 h
      refine h.elim ?_; clear h; intro u9 h
      refine h.elim ?_; clear h; intro u10 h
      refine h.elim ?_; clear h; intro u11 h
      refine h.elim ?_; clear h; intro u12 h
      refine h.elim ?_; clear h; intro u13 h
      refine h.elim ?_; clear h; intro u14 h
      refine h.elim ?_; clear h; intro u15 h
      refine h.elim ?_; clear h; intro u16 h
      refine h.elim ?_; clear h; intro u17 h
      refine h.elim ?_; clear h; intro u18 h
      refine h.elim ?_; clear h; intro u19 h
      refine h.elim ?_; clear h; intro u20 h
      refine h.elim ?_; clear h; intro u21 h
      have hbb := h.1; replace h := h.2; subst hbb
      have hHeld := h.1; replace h := h.2
      have f0 := h.1; replace h := h.2
      have f1 := h.1; replace h := h.2
      have f2 := h.1; replace h := h.2
      have f3 := h.1; replace h := h.2
      have f4 := h.1; replace h := h.2
      have f5 := h.1; replace h := h.2
      have f6 := h.1; replace h := h.2
      have f7 := h.1; replace h := h.2
      have f8 := h.1; replace h := h.2
      have f9 := h.1; replace h := h.2
      have f10 := h.1; replace h := h.2
      have f11 := h.1; replace h := h.2
      have f12 := h.1; replace h := h.2
      have f17 := h.1; replace h := h.2
      have f18 := h.1; replace h := h.2
      have f19 := h; clear h
      intro K hK
      have g7 := f7 (hA 7 (by simp))
      have g0 := f0 (hA 0 (by simp))
      obtain rfl := g0
      have g1 := f1 (hA 1 (by simp))
      obtain rfl := g1
      have g2 := f2 (hA 2 (by simp))
      have g3 := f3 (hA 3 (by simp))
      obtain rfl := g3
      have g4 := f4 (hA 4 (by simp))
      obtain rfl := g4
      have g5 := f5 (hA 5 (by simp))
      obtain ⟨q9, rfl, H9⟩ := g5
      have g6 := f6 (hA 6 (by simp))
      rw [if_pos (by kernel_rfl)]
      have q0 := cellB hHeld C0 hz0
      have q1 := cellB hHeld C1 hz0
      go_simp
      try simp only [Act.put, List.setIfInBounds_toArray, List.set_cons_zero, List.set_cons_succ]
      refine hK.out _ _ ⟨_, _, _, _, _, _, _, _, _, _, _, _, _, _, _, _, _, _, _, _, rfl, ?_, ?_, ?_, ?_, ?_, ?_, ?_, ?_, ?_, ?_, ?_, ?_, ?_, ?_, ?_, ?_, ?_⟩
      · first | exact hHeld | exact hHeld.trans (hb.mono hHeld.size) | (trace_state; fail)
      · first | exact flag_ne (by decide) f0 | exact fun _ => rfl
      · first | exact flag_ne (by decide) f1 | exact fun _ => rfl
      · intro _ h7; rw [getD_set_ne true (by decide)] at h7; exact (getD_no h7 (hA 7 (by simp))).elim
      · first | exact flag_ne (by decide) f3 | exact fun _ => rfl
      · first | exact flag_ne (by decide) f4 | exact fun _ => rfl
      · intro h; rw [getD_set_ne false (by decide)] at h; have := f5 h; obtain ⟨q, e1, e2⟩ := this; exact (by first | exact ⟨q, e1, e2⟩ | exact ⟨q, e1, owns_below e2 hb⟩ | exact ⟨q, e1, owns_grown e2 hG (fun g hg => owns_type e2 g2 (by decide) hg)⟩ | (trace_state; fail))
      · intro _ h7; rw [getD_set_ne true (by decide)] at h7; exact (getD_no h7 (hA 7 (by simp))).elim
      · intro h; rw [getD_set_ne false (by decide)] at h; have := f7 h; first | exact this | exact owns_below this hb | (trace_state; fail)
      · first | exact flag_ne (by decide) f8 | exact fun _ => rfl
      · first | exact flag_ne (by decide) f9 | exact fun _ => rfl
      · first | exact flag_ne (by decide) f10 | exact fun _ => rfl
      · first | exact flag_ne (by decide) f11 | exact fun _ => rfl
      · first | exact flag_ne (by decide) f12 | exact fun _ => rfl
      · first | exact flag_ne (by decide) f17 | exact fun _ => rfl
      · intro _; first | exact g7 | (trace_state; fail)
      · first | exact flag_ne (by decide) f19 | exact fun _ => rfl
    · refine StepAt.mk (o := { dst := some 3, op := Op.assign (Operand.tmp 21), type := 4, pos := _, after := #[{ on := 17, ground := Ground.data }, { on := 18, ground := Ground.chain }, { on := 0, ground := Ground.phase }, { on := 1, ground := Ground.phase }, { on := 2, ground := Ground.phase }, { on := 3, ground := Ground.phase }, { on := 4, ground := Ground.phase }, { on := 5, ground := Ground.phase }, { on := 6, ground := Ground.phase }, { on := 7, ground := Ground.phase }, { on := 8, ground := Ground.phase }, { on := 9, ground := Ground.phase }, { on := 10, ground := Ground.phase }, { on := 11, ground := Ground.phase }, { on := 12, ground := Ground.phase }, { on := 13, ground := Ground.phase }, { on := 14, ground := Ground.phase }, { on := 15, ground := Ground.phase }, { on := 16, ground := Ground.phase }, { on := 17, ground := Ground.phase }, { on := 18, ground := Ground.phase }], guard := none }) (ws := [17, 18, 0, 1, 2, 3, 4, 5, 6, 7, 8, 9, 10, 11, 12, 13, 14, 15, 16, 17, 18]) rfl (by kernel_rfl) ?_
      intro L b v hC h0 hA h
      refine h.elim ?_; clear h; intro u2 h
      refine h.elim ?_; clear h; intro u3 h
      refine h.elim ?_; clear h; intro u4 h
      refine h.elim ?_; clear h; intro u5 h
      refine h.elim ?_; clear h; intro u6 h
      refine h.elim ?_; clear h; intro u7 h
      refine h.elim ?_; clear h; intro u8 h
      refine h.elim ?_; clear h; intro u9 h
      refine h.elim ?_; clear h; intro u10 h
      refine h.elim ?_; clear h; intro u11 h
      refine h.elim ?_; clear h; intro u12 h
      refine h.elim ?_; clear h; intro u13 h
      refine h.elim ?_; clear h; intro u14 h
      refine h.elim ?_; clear h; intro u15 h
      refine h.elim ?_; clear h; intro u16 h
      refine h.elim ?_; clear h; intro u17 h
      refine h.elim ?_; clear h; intro u18 h
      refine h.elim ?_; clear h; intro u19 h
      refine h.elim ?_; clear h; intro u20 h
      refine h.elim ?_; clear h; intro u21 h
      have hbb := h.1; replace h := h.2; subst hbb
      have hHeld := h.1; replace h := h.2
      have f0 := h.1; replace h := h.2
      have f1 := h.1; replace h := h.2
      have f2 := h.1; replace h := h.2
      have f3 := h.1; replace h := h.2
      have f4 := h.1; replace h := h.2
      have f5 := h.1; replace h := h.2
      have f6 := h.1; replace h := h.2
      have f7 := h.1; replace h := h.2
      have f8 := h.1; replace h := h.2
      have f9 := h.1; replace h := h.2
      have f10 := h.1; replace h := h.2
      have f11 := h.1; replace h := h.2
      have f12 := h.1; replace h := h.2
      have f17 := h.1; replace h := h.2
      have f18 := h.1; replace h := h.2
      have f19 := h; clear h
      intro K hK
      have g17 := f17 (hA 17 (by simp))
      obtain rfl := g17
      have g18 := f18 (hA 18 (by simp))
      have g0 := f0 (hA 0 (by simp))
      obtain rfl := g0
      have g1 := f1 (hA 1 (by simp))
      obtain rfl := g1
      have g2 := f2 (hA 2 (by simp))
      have g3 := f3 (hA 3 (by simp))
      obtain rfl := g3
      have g4 := f4 (hA 4 (by simp))
      obtain rfl := g4
      have g5 := f5 (hA 5 (by simp))
      obtain ⟨q9, rfl, H9⟩ := g5
      have g6 := f6 (hA 6 (by simp))
      have g7 := f7 (hA 7 (by simp))
      have g8 := f8 (hA 8 (by simp))
      obtain rfl := g8
      have g9 := f9 (hA 9 (by simp))
      obtain rfl := g9
      have g10 := f10 (hA 10 (by simp))
      obtain rfl := g10
      have g11 := f11 (hA 11 (by simp))
      obtain rfl := g11
      have g12 := f12 (hA 12 (by simp))
      obtain rfl := g12
      rw [if_pos (by kernel_rfl)]
      have q0 := cellB hHeld C0 hz0
      have q1 := cellB hHeld C1 hz0
      go_simp
      try simp only [Act.put, List.setIfInBounds_toArray, List.set_cons_zero, List.set_cons_succ]
      refine hK.out _ _ ⟨_, _, _, _, _, _, _, _, _, _, _, _, _, _, _, _, _, _, _, _, rfl, ?_, ?_, ?_, ?_, ?_, ?_, ?_, ?_, ?_, ?_, ?_, ?_, ?_, ?_, ?_, ?_, ?_⟩
      · first | exact hHeld | exact hHeld.trans (hb.mono hHeld.size) | (trace_state; fail)
      · first | exact flag_ne (by decide) f0 | exact fun _ => rfl
      · first | exact flag_ne (by decide) f1 | exact fun _ => rfl
      · intro _ h7; rw [getD_set_ne true (by decide)] at h7; exact (getD_no h7 (hA 7 (by simp))).elim
      · first | exact flag_ne (by decide) f3 | exact fun _ => rfl
      · first | exact flag_ne (by decide) f4 | exact fun _ => rfl
      · intro h; rw [getD_set_ne false (by decide)] at h; have := f5 h; obtain ⟨q, e1, e2⟩ := this; exact (by first | exact ⟨q, e1, e2⟩ | exact ⟨q, e1, owns_below e2 hb⟩ | exact ⟨q, e1, owns_grown e2 hG (fun g hg => owns_type e2 g2 (by decide) hg)⟩ | (trace_state; fail))
      · intro _ h7; rw [getD_set_ne true (by decide)] at h7; exact (getD_no h7 (hA 7 (by simp))).elim
      · intro h; rw [getD_set_ne false (by decide)] at h; have := f7 h; first | exact this | exact owns_below this hb | (trace_state; fail)
      · first | exact flag_ne (by decide) f8 | exact fun _ => rfl
      · first | exact flag_ne (by decide) f9 | exact fun _ => rfl
      · first | exact flag_ne (by decide) f10 | exact fun _ => rfl
      · first | exact flag_ne (by decide) f11 | exact fun _ => rfl
      · first | exact flag_ne (by decide) f12 | exact fun _ => rfl
      · first | exact flag_ne (by decide) f17 | exact fun _ => rfl
      · intro h; rw [getD_set_ne false (by decide)] at h; have := f18 h; first | exact this | exact owns_below this hb | (trace_state; fail)
      · intro _; first | rfl | (trace_state; fail)
  intro L b v hA h
  refine h.elim ?_; clear h; intro u2 h
  refine h.elim ?_; clear h; intro u3 h
  refine h.elim ?_; clear h; intro u4 h
  refine h.elim ?_; clear h; intro u5 h
  refine h.elim ?_; clear h; intro u6 h
  refine h.elim ?_; clear h; intro u7 h
  refine h.elim ?_; clear h; intro u8 h
  refine h.elim ?_; clear h; intro u9 h
  refine h.elim ?_; clear h; intro u10 h
  refine h.elim ?_; clear h; intro u11 h
  refine h.elim ?_; clear h; intro u12 h
  refine h.elim ?_; clear h; intro u13 h
  refine h.elim ?_; clear h; intro u14 h
  refine h.elim ?_; clear h; intro u15 h
  refine h.elim ?_; clear h; intro u16 h
  refine h.elim ?_; clear h; intro u17 h
  refine h.elim ?_; clear h; intro u18 h
  refine h.elim ?_; clear h; intro u19 h
  refine h.elim ?_; clear h; intro u20 h
  refine h.elim ?_; clear h; intro u21 h
  have hbb := h.1; replace h := h.2; subst hbb
  have hHeld := h.1; replace h := h.2
  have f0 := h.1; replace h := h.2
  have f1 := h.1; replace h := h.2
  have f2 := h.1; replace h := h.2
  have f3 := h.1; replace h := h.2
  have f4 := h.1; replace h := h.2
  have f5 := h.1; replace h := h.2
  have f6 := h.1; replace h := h.2
  have f7 := h.1; replace h := h.2
  have f8 := h.1; replace h := h.2
  have f9 := h.1; replace h := h.2
  have f10 := h.1; replace h := h.2
  have f11 := h.1; replace h := h.2
  have f12 := h.1; replace h := h.2
  have f17 := h.1; replace h := h.2
  have f18 := h.1; replace h := h.2
  have f19 := h; clear h
  have g0 := f0 (hA 0 (by omega))
  clear f0
  obtain rfl := g0
  have g1 := f1 (hA 1 (by omega))
  clear f1
  obtain rfl := g1
  clear f2
  have g3 := f3 (hA 3 (by omega))
  clear f3
  obtain rfl := g3
  have g4 := f4 (hA 4 (by omega))
  clear f4
  obtain rfl := g4
  have g5 := f5 (hA 5 (by omega))
  clear f5
  obtain ⟨q9, rfl, H9⟩ := g5
  clear f6
  have g7 := f7 (hA 7 (by omega))
  clear f7
  have g8 := f8 (hA 8 (by omega))
  clear f8
  obtain rfl := g8
  have g9 := f9 (hA 9 (by omega))
  clear f9
  obtain rfl := g9
  have g10 := f10 (hA 10 (by omega))
  clear f10
  obtain rfl := g10
  have g11 := f11 (hA 11 (by omega))
  clear f11
  obtain rfl := g11
  have g12 := f12 (hA 12 (by omega))
  clear f12
  obtain rfl := g12
  have g17 := f17 (hA 17 (by omega))
  clear f17
  obtain rfl := g17
  have g18 := f18 (hA 18 (by omega))
  clear f18
  have g19 := f19 (hA 19 (by omega))
  clear f19
  obtain rfl := g19
  clear hA
  go_wp2_with fail
  go_returns
  have hz1 : W0.heap.size = w.heap.size + 1 := by rw [hW0]; simp
  exact ⟨_, rfl, Below.trans (by rw [hW0]; exact (Below.refl _ _).alloc (Nat.le_refl _) _) (hHeld.mono (by omega))⟩
end Go.Proofs.YtjikkipdmonndaaDoor

/- Layer 14: a table of blocks as bytes. -/
namespace Go.Proofs.YtjikkipdmonndaaDoor
open Go.RowKit
set_option linter.unusedSimpArgs false
set_option linter.unusedVariables false
def blkOk (x : Bk) : Bool := decide (x.name.length ≤ 255) && fitB x.kind
def blkL (x : Bk) : List UInt8 := blkB ⟨x.name.toArray⟩ x.kind
def blksL (L : List Bk) : List UInt8 := L.flatMap blkL
theorem blksL_snoc (L : List Bk) (x : Bk) : blksL (L ++ [x]) = blksL L ++ blkL x := by simp [blksL]
theorem blkL_len {x : Bk} (h : x.name.length ≤ 255) : (blkL x).length ≤ 257 := by
  unfold blkL blkB cut255
  have hsz : (⟨x.name.toArray⟩ : ByteArray).size = x.name.length := by simp [ByteArray.size]
  rw [if_neg (by omega)]
  simp
  omega
theorem tab_PutBlock_any (x : Bk) (w : World) (hs : x.name.length ≤ 1000000) (hk : I64 x.kind) :
    Calls Tryd.prog 53 #[.agg #[.string ⟨x.name.toArray⟩, .int .i64 x.kind]] w fun e w' => ∃ r, e = .returned (.tuple #[r, .bool (blkOk x)]) ∧ (x.name.length ≤ 255 → w'.ownsRow (w.heap.size + 1) 5 1 r (blkL x).length (bytesV (blkL x))) ∧ Below w.heap.size w w' := by
  have hsz : (⟨x.name.toArray⟩ : ByteArray).size = x.name.length := by simp [ByteArray.size]
  by_cases h : x.name.length ≤ 255
  · refine (tab_PutBlock ⟨x.name.toArray⟩ x.kind w (by omega) hk (by omega)).mono ?_
    rintro e w' ⟨r, rfl, h1, h2⟩
    exact ⟨r, by unfold blkOk; rw [decide_eq_true h]; rfl, fun _ => h1, h2⟩
  · refine (tab_PutBlock_long ⟨x.name.toArray⟩ x.kind w (by omega) hk (by omega)).mono ?_
    rintro e w' ⟨r, rfl, h2⟩
    exact ⟨r, by unfold blkOk; rw [decide_eq_false h]; rfl, fun h' => absurd h' h, h2⟩
end Go.Proofs.YtjikkipdmonndaaDoor

/- Layer 14: a table of blocks as bytes: the loop. -/
namespace Go.Proofs.YtjikkipdmonndaaDoor
open Go.RowKit
set_option linter.unusedSimpArgs false
set_option linter.unusedVariables false
def okBs (L : List Bk) : Bool := decide (L.length ≤ 32) && L.all blkOk
theorem blksL_len : ∀ L : List Bk, L.all blkOk = true → (blksL L).length ≤ 257 * L.length
  | [], _ => by simp [blksL]
  | x :: t, h => by
    have h' := h
    rw [List.all_cons, Bool.and_eq_true] at h'
    have h1 := blkL_len (x := x) (by have := h'.1; unfold blkOk at this; simp at this; exact this.1)
    have h2 := blksL_len t h'.2
    have e : blksL (x :: t) = blkL x ++ blksL t := by simp [blksL]
    rw [e, List.length_append, List.length_cons]; omega
set_option maxHeartbeats 4000000 in
theorem tab_put_blocks (v : Value) (L : List Bk) (w : World) (hv : RowR 2 blkR w v L) (hn : ∀ x ∈ L, x.name.length ≤ 1000000) (hlen : L.length ≤ 32) :
    Calls Tryd.prog 52 #[v, .int .i64 32, .func (.func 53) #[] #[]] w fun e w' => ∃ r, e = .returned (.tuple #[r, .bool (L.all blkOk)]) ∧ (L.all blkOk = true → w'.ownsRow w.heap.size 5 1 r (2 + (blksL L).length) (bytesV (putL 2 L.length ++ blksL L))) ∧ (L.all blkOk = false → r = .slice none 0 0) ∧ Below w.heap.size w w' := by
  obtain ⟨i, hi, hz, hsize, hby⟩ : ∃ i, Tryd.prog.info? 5 = some i ∧ i.zero = some (.int .u8 0) ∧ i.size = 1 ∧ i.bytes = 1 := ⟨(Tryd.prog.info? 5).get!, by kernel_rfl, by kernel_rfl, by kernel_rfl, by kernel_rfl⟩
  obtain ⟨sa, ca, rfl⟩ := row_get hv
  have HY := Lib.hid (show L.take L.length = L from List.take_length)
  have cp := @cell_past
  obtain ⟨n, hN⟩ : ∃ n, L.length = n := ⟨_, rfl⟩
  rw [hN] at hv hlen HY ⊢
  have q0 : (32 < (n : Int)) = False := eq_false (by omega)
  go_enter Tryd.func52, Tryd.ntmps52
  go_wp2_with fail
  refine (octet_Put (.slice none 0 0) [] 2 (n : Int) _ (Or.inl ⟨none, 0, rfl, rfl, fun _ => rfl⟩) (by simp)).mono ?_; rintro e w1 ⟨r1, rfl, hO1, hb1⟩
  have hO1 : w1.ownsRow w.heap.size 5 1 r1 2 (bytesV (putL 2 n)) := hO1
  go_wp2_with fail
  go_loopw [8, 22] (fun o j wr => ∃ k : Nat, k ≤ n ∧ j = .int .i64 k ∧ Hid ((L.take k).all blkOk = true) ∧ Hid (wr.ownsRow w.heap.size 5 1 o (2 + (blksL (L.take k)).length) (bytesV (putL 2 n ++ blksL (L.take k)))) ∧ Below w.heap.size w wr) (fun _ j _ => n - (intOf j).toNat)
  case atStart => exact ⟨0, by omega, rfl, Lib.hid (by simp), Lib.hid (by simpa [blksL] using hO1), hb1⟩
  case round =>
    obtain ⟨k, hk, rfl, hall, hO, hB⟩ := hrel
    have hz' := hB.size
    by_cases hlt : k < n
    · obtain ⟨x, hx⟩ : ∃ x, L[k]? = some x := get_some (by omega)
      obtain ⟨b, off, rfl, hbw, hc⟩ := blk_at hv (k := k) (by omega)
      obtain ⟨c0, c1, c2, c3⟩ := hc k x hx
      have c0 := (hB.cell (p := ⟨b, off + k * 2, none⟩) hbw).trans c0
      have c1 := (hB.cell (p := ⟨b, off + k * 2 + 1, none⟩) hbw).trans c1
      clear hc
      have hn1 := hn x (List.mem_of_getElem? hx)
      have hts := Lib.hid (take_snoc hx)
      have hmem := Lib.hid (List.mem_of_getElem? hx)
      have hno := Lib.hid (fun h : blkOk x = false => (show L.all blkOk = false from List.all_eq_false.2 ⟨x, hmem.out, by simp [h]⟩))
      have hlb := Lib.hid (fun h : blkOk x = true => (show x.name.length ≤ 255 by unfold blkOk at h; simp at h; exact h.1))
      have hbl : (blksL (L.take k)).length ≤ 1000000 := by have := blksL_len (L.take k) hall.out; rw [List.length_take] at this; omega
      have HE := Lib.hid (tab_PutBlock_any x (wr.alloc (.cells #[.string ⟨x.name.toArray⟩, .int .i64 x.kind] 43)) hn1 c3)
      have hz2 : (wr.alloc (.cells #[.string ⟨x.name.toArray⟩, .int .i64 x.kind] 43)).heap.size = wr.heap.size + 1 := by simp
      clear hx hmem hn1 hn
      cases hr : blkOk x
      · have hA := Lib.hid (hno.out hr)
        rw [hr] at HE
        clear hno hlb hr
        go_wp2_with fail
        refine HE.out.mono ?_; rintro e w2 ⟨r2, rfl, hr2, hb2⟩
        have hB2 : Below w.heap.size w w2 := (hB.alloc hz' _).trans (hb2.mono (by rw [hz2]; omega))
        clear hr2
        go_wp2_with fail
        go_returns
        exact ⟨_, by rw [hA.out]; rfl, fun h => (by rw [hA.out] at h; cases h), fun _ => rfl, hB2⟩
      · have hl255 := hlb.out hr
        rw [hr] at HE
        go_wp2_with fail
        refine HE.out.mono ?_; rintro e w2 ⟨r2, rfl, hr2, hb2⟩
        have hO2 := Lib.hid (hr2 hl255)
        have hB2 : Below w.heap.size w w2 := (hB.alloc hz' _).trans (hb2.mono (by rw [hz2]; omega))
        have hbn : Below wr.heap.size wr w2 := ((Below.refl _ _).alloc (Nat.le_refl _) _).trans (hb2.mono (by rw [hz2]; omega))
        have hO3 := Lib.hid (owns_below hO.out hbn)
        have hz3 := hB2.size
        have hl257 := blkL_len hl255
        go_wp2_with (first | (at_builtin; go_loud (refine wpList_append_src rfl (.tmp 34) (.tmp 35) 30 rfl w.heap.size 5 i (.int .u8 0) 1 1 Tryd.underlying30 hi hz hsize hby rfl (by omega) _ (2 + (blksL (L.take k)).length) _ rfl hO3.out _ (blkL x).length _ rfl (src_own hO2.out) (by simp [bytesV]) (bytesV_one _) (by unfold maxLen; omega) (by omega) hz3 ?_; intro v3 w3 hO4 hG3; have hB3 := Lib.hid (grown3 hB2 hz3 hO3.out hG3); have HO4 := Lib.hid hO4; clear hO4 hG3)) | fail)
        go_roundw
        case rel => exact ⟨k + 1, by omega, by simp, Lib.hid (by rw [hts.out, List.all_append, hall.out]; simp [hr]), Lib.hid (own_eq2 HO4.out (by rw [hts.out, blksL_snoc, List.length_append]; omega) (by rw [hts.out, blksL_snoc]; simp [bytesV])), hB3.out⟩
        case measure => first | (simp [intOf]; done) | (simp [intOf]; omega)
    · obtain rfl : k = n := by omega
      have hA := Lib.hid (show L.all blkOk = true by have := hall.out; rwa [HY.out] at this)
      go_wp2_with fail
      go_returns
      exact ⟨_, by rw [hA.out]; rfl, fun _ => (by have := hO.out; rwa [HY.out] at this), fun h => (by rw [hA.out] at h; cases h), hB⟩
end Go.Proofs.YtjikkipdmonndaaDoor

/- Layer 14: blocks that are read of any bytes. -/
namespace Go.Proofs.YtjikkipdmonndaaDoor
open Go.RowKit
set_option linter.unusedSimpArgs false
set_option linter.unusedVariables false
def rBlk (L : List UInt8) (n : Nat) (b : Bool) : Bk × Nat × Bool :=
  (⟨(rText L n b).1, (rNum L 1 (rText L n b).2.1 (rText L n b).2.2).1⟩, (rNum L 1 (rText L n b).2.1 (rText L n b).2.2).2)
def goodB (x : Bk) : Prop := x.name.length ≤ 1000000 ∧ I64 x.kind
theorem blkL_eq {x : Bk} (h : x.name.length ≤ 255) : blkL x = (UInt8.ofNat x.name.length :: x.name) ++ [byteO x.kind] := by
  unfold blkL blkB cut255
  have hsz : (⟨x.name.toArray⟩ : ByteArray).size = x.name.length := by simp [ByteArray.size]
  rw [if_neg (by omega)]
  simp [hsz]
theorem byteO_fit {z : Int} (h : fitB z = true) : numV [byteO z] = z := by
  unfold fitB at h
  have h' := of_decide_eq_true h
  rw [numV_one, byteO_val]
  omega
theorem fit_byteO (c : UInt8) : fitB (numV [c]) = true ∧ byteO (numV [c]) = c := by
  have hc := c.toNat_lt
  rw [numV_one]
  refine ⟨fitB_yes (by omega) (by omega), UInt8.toNat_inj.1 ?_⟩
  have := byteO_val (c.toNat : Int)
  omega
theorem readsB : Reads rBlk blkL blkOk goodB where
  bad L n hn := by
    show (rNum L 1 (rText L n true).2.1 (rText L n true).2.2).2.2 = true
    rw [rText_bad, rNum_bad]
  at' L n b hn := by
    obtain ⟨h1, h2⟩ := rText_at L n b hn
    obtain ⟨k1, k2⟩ := rNum_at L 1 (rText L n b).2.1 (rText L n b).2.2 h2
    exact ⟨Nat.le_trans h1 k1, k2⟩
  fine L n b hn hL := ⟨by have := rText_len L n b; show (rText L n b).1.length ≤ _; omega, numV_in _⟩
  back L n x T hok hx h hn := by
    unfold blkOk at hok
    rw [Bool.and_eq_true] at hok
    have hs : x.name.length ≤ 255 := of_decide_eq_true hok.1
    rw [blkL_eq hs] at h ⊢
    rw [List.append_assoc] at h
    have h1 := rText_back h hn hs
    obtain ⟨d1, d2⟩ := drop_enc h hn
    have e1 : (UInt8.ofNat x.name.length :: x.name).length = 1 + x.name.length := by simp; omega
    rw [e1] at d1 d2
    have h2 := rNum_back d1 d2
    rw [show [byteO x.kind].length = 1 from rfl, byteO_fit hok.2] at h2
    unfold rBlk
    rw [h1]
    dsimp only
    rw [h2, List.length_append, e1, Nat.add_assoc]
    rfl
  forth L n hn hb := by
    have hb' : (rNum L 1 (rText L n false).2.1 (rText L n false).2.2).2.2 = false := hb
    have hb0 : (rText L n false).2.2 = false := by
      cases hc : (rText L n false).2.2
      · rfl
      · rw [hc, rNum_bad] at hb'; cases hb'
    rw [hb0] at hb'
    obtain ⟨h1, h2, h3⟩ := rText_forth hb0
    obtain ⟨k1, k2, k3, k4⟩ := rNum_forth hb'
    obtain ⟨c, hc⟩ : ∃ c, (L.drop (rText L n false).2.1).take 1 = [c] := ⟨_, take_one k1⟩
    rw [hc] at k2 k3
    obtain ⟨f1, f2⟩ := fit_byteO c
    have e : rBlk L n false = (⟨(rText L n false).1, numV [c]⟩, (rText L n false).2.1 + 1, false) := by
      unfold rBlk
      rw [hb0, k2]
    rw [e]
    dsimp only
    have hs : (⟨(rText L n false).1, numV [c]⟩ : Bk).name.length ≤ 255 := h1
    rw [blkL_eq hs]
    dsimp only
    rw [f2]
    refine ⟨?_, ?_, ?_⟩
    · unfold blkOk
      rw [decide_eq_true hs, f1]
      rfl
    · rw [List.append_assoc, ← k3]
      exact h2
    · rw [h3]; simp; omega
end Go.Proofs.YtjikkipdmonndaaDoor

/- Layer 14: constants that are read of any bytes, and their bytes. -/
namespace Go.Proofs.YtjikkipdmonndaaDoor
open Go.RowKit
set_option linter.unusedSimpArgs false
set_option linter.unusedVariables false
def cstOk (x : Int × Int) : Bool := fitB x.1
def cstL (x : Int × Int) : List UInt8 := [byteO x.1] ++ putL 8 x.2
def cstsL (L : List (Int × Int)) : List UInt8 := L.flatMap cstL
theorem cstsL_snoc (L : List (Int × Int)) (x : Int × Int) : cstsL (L ++ [x]) = cstsL L ++ cstL x := by simp [cstsL]
theorem cstL_len (x : Int × Int) : (cstL x).length = 9 := by unfold cstL; rw [List.length_append, putL_len]; rfl
theorem cstsL_len : ∀ L : List (Int × Int), (cstsL L).length = 9 * L.length
  | [] => by simp [cstsL]
  | x :: t => by
    have h2 := cstsL_len t
    have e : cstsL (x :: t) = cstL x ++ cstsL t := by simp [cstsL]
    rw [e, List.length_append, List.length_cons, cstL_len, h2]; omega
def okCs (L : List (Int × Int)) : Bool := decide (L.length ≤ 1024) && L.all cstOk
def rCst (L : List UInt8) (n : Nat) (b : Bool) : (Int × Int) × Nat × Bool :=
  (((rNum L 1 n b).1, (rNum L 8 (rNum L 1 n b).2.1 (rNum L 1 n b).2.2).1), (rNum L 8 (rNum L 1 n b).2.1 (rNum L 1 n b).2.2).2)
def goodC (x : Int × Int) : Prop := I64 x.1 ∧ I64 x.2
theorem numV_put8' {z : Int} (h : I64 z) : numV (putL 8 z) = z := numV_put8 z h
theorem readsC : Reads rCst cstL cstOk goodC where
  bad L n hn := by
    show (rNum L 8 (rNum L 1 n true).2.1 (rNum L 1 n true).2.2).2.2 = true
    rw [rNum_bad, rNum_bad]
  at' L n b hn := by
    obtain ⟨h1, h2⟩ := rNum_at L 1 n b hn
    obtain ⟨k1, k2⟩ := rNum_at L 8 (rNum L 1 n b).2.1 (rNum L 1 n b).2.2 h2
    exact ⟨Nat.le_trans h1 k1, k2⟩
  fine L n b hn hL := ⟨numV_in _, numV_in _⟩
  back L n x T hok hx h hn := by
    unfold cstL at h ⊢
    rw [List.append_assoc] at h
    have h1 := rNum_back h hn
    obtain ⟨d1, d2⟩ := drop_enc h hn
    rw [show [byteO x.1].length = 1 from rfl] at h1 d1 d2
    have h2 := rNum_back d1 d2
    rw [putL_len, numV_put8' hx.2] at h2
    rw [byteO_fit hok] at h1
    unfold rCst
    rw [h1]
    dsimp only
    rw [h2, List.length_append, putL_len]
    rfl
  forth L n hn hb := by
    have hb' : (rNum L 8 (rNum L 1 n false).2.1 (rNum L 1 n false).2.2).2.2 = false := hb
    have hb0 : (rNum L 1 n false).2.2 = false := by
      cases hc : (rNum L 1 n false).2.2
      · rfl
      · rw [hc, rNum_bad] at hb'; cases hb'
    rw [hb0] at hb'
    obtain ⟨h1, h2, h3, h4⟩ := rNum_forth hb0
    obtain ⟨k1, k2, k3, k4⟩ := rNum_forth hb'
    obtain ⟨c, hc⟩ : ∃ c, (L.drop n).take 1 = [c] := ⟨_, take_one h1⟩
    rw [hc] at h2 h3
    rw [h2] at k1 k2 k3 k4
    dsimp only at k1 k2 k3 k4
    obtain ⟨f1, f2⟩ := fit_byteO c
    obtain ⟨B8, hB8⟩ : ∃ B8, (L.drop (n + 1)).take 8 = B8 := ⟨_, rfl⟩
    rw [hB8] at k2 k3 k4
    have e : rCst L n false = ((numV [c], numV B8), n + 1 + 8, false) := by
      unfold rCst
      rw [h2]
      dsimp only
      rw [k2]
    rw [e]
    dsimp only
    unfold cstL cstOk
    dsimp only
    rw [f2, putL8_num k4]
    refine ⟨f1, ?_, ?_⟩
    · rw [List.append_assoc, ← k3]
      exact h3
    · simp [k4]
end Go.Proofs.YtjikkipdmonndaaDoor

/- Layer 14: a constant's row as bytes. -/
namespace Go.Proofs.YtjikkipdmonndaaDoor
open Go.RowKit
set_option linter.unusedSimpArgs false
set_option linter.unusedVariables false
set_option maxRecDepth 100000 in
set_option maxHeartbeats 4000000 in
theorem putConst_r1 (W0 : World) (g : Nat) (x : Int × Int) (h1 : I64 x.1) (C0 : W0.cell? ⟨g, 0, none⟩ = some (.int .i64 x.1)) (C1 : W0.cell? ⟨g, 1, none⟩ = some (.int .i64 x.2)) (hg : g < W0.heap.size) (t4 t5 t6 t7 t8 t9 t10 t11 t12 t13 t14 : Value) :
    (Code.region 1 #[{ dst := some 4, op := Op.fieldAddr 61 (Operand.tmp 1) 0, type := 0, pos := "tab.go:74", after := #[], guard := none }, { dst := some 5, op := Op.load 3 (Operand.tmp 4), type := 3, pos := "tab.go:74", after := #[{ on := 0, ground := Ground.data }], guard := none }, { dst := some 6, op := Op.buildSlice 45 1 #[(0, Operand.tmp 5)], type := 45, pos := "tab.go:74", after := #[{ on := 1, ground := Ground.data }], guard := none }, { dst := some 7, op := Op.call { callee := Callee.value (Operand.func 47), args := #[Operand.tmp 6], argTypes := #[45] }, type := 30, pos := "tab.go:74", after := #[{ on := 2, ground := Ground.data }], guard := none }, { dst := some 8, op := Op.fieldAddr 61 (Operand.tmp 1) 1, type := 0, pos := "tab.go:74", after := #[], guard := none }, { dst := some 9, op := Op.load 3 (Operand.tmp 8), type := 3, pos := "tab.go:74", after := #[{ on := 4, ground := Ground.data }], guard := none }, { dst := some 10, op := Op.call { callee := Callee.value (Operand.func 22), args := #[Operand.tmp 7, Operand.const (Value.int IntKind.i64 8), Operand.tmp 9], argTypes := #[30, 3, 3] }, type := 30, pos := "tab.go:74", after := #[{ on := 3, ground := Ground.data }, { on := 5, ground := Ground.data }, { on := 3, ground := Ground.chain }], guard := none }, { dst := some 11, op := Op.fieldAddr 61 (Operand.tmp 1) 0, type := 0, pos := "tab.go:74", after := #[], guard := none }, { dst := some 12, op := Op.load 3 (Operand.tmp 11), type := 3, pos := "tab.go:74", after := #[{ on := 7, ground := Ground.data }], guard := none }, { dst := some 13, op := Op.buildSlice 45 1 #[(0, Operand.tmp 12)], type := 45, pos := "tab.go:74", after := #[{ on := 8, ground := Ground.data }], guard := none }, { dst := some 14, op := Op.call { callee := Callee.value (Operand.func 48), args := #[Operand.tmp 13], argTypes := #[45] }, type := 4, pos := "tab.go:74", after := #[{ on := 9, ground := Ground.data }, { on := 6, ground := Ground.chain }], guard := none }, { dst := some 2, op := Op.assign (Operand.tmp 10), type := 30, pos := "tab.go:74", after := #[{ on := 6, ground := Ground.data }, { on := 10, ground := Ground.chain }, { on := 0, ground := Ground.phase }, { on := 1, ground := Ground.phase }, { on := 2, ground := Ground.phase }, { on := 3, ground := Ground.phase }, { on := 4, ground := Ground.phase }, { on := 5, ground := Ground.phase }, { on := 6, ground := Ground.phase }, { on := 7, ground := Ground.textOnly Departure.lateStores }, { on := 8, ground := Ground.textOnly Departure.lateStores }, { on := 9, ground := Ground.textOnly Departure.lateStores }, { on := 10, ground := Ground.textOnly Departure.lateStoresUnsure }], guard := none }, { dst := some 3, op := Op.assign (Operand.tmp 14), type := 4, pos := "tab.go:74", after := #[{ on := 10, ground := Ground.data }, { on := 11, ground := Ground.chain }, { on := 0, ground := Ground.phase }, { on := 1, ground := Ground.phase }, { on := 2, ground := Ground.phase }, { on := 3, ground := Ground.phase }, { on := 4, ground := Ground.phase }, { on := 5, ground := Ground.phase }, { on := 6, ground := Ground.phase }, { on := 7, ground := Ground.phase }, { on := 8, ground := Ground.phase }, { on := 9, ground := Ground.phase }, { on := 10, ground := Ground.phase }, { on := 11, ground := Ground.phase }], guard := none }] true).wp Tryd.prog (fun e b v => e = Exit.normal ∧ ∃ u2 u3 u4 u5 u6 u7 u8 u9 u10 u11 u12 u13 u14 : Value, b = ⟨#[.agg #[.int .i64 x.1, .int .i64 x.2], .pointer (some ⟨g, 0, none⟩), u2, u3, u4, u5, u6, u7, u8, u9, u10, u11, u12, u13, u14], []⟩ ∧ Below W0.heap.size W0 v ∧ (v.ownsRow W0.heap.size 5 1 u2 9 (bytesV (cstL x))) ∧ (u3 = .bool (fitB x.1))) ⟨#[.agg #[.int .i64 x.1, .int .i64 x.2], .pointer (some ⟨g, 0, none⟩), .slice none 0 0, .bool false, t4, t5, t6, t7, t8, t9, t10, t11, t12, t13, t14], []⟩ W0 := by
  refine wp_region_facts (n := 13) (fun L b v => ∃ u2 u3 u4 u5 u6 u7 u8 u9 u10 u11 u12 u13 u14 : Value, b = ⟨#[.agg #[.int .i64 x.1, .int .i64 x.2], .pointer (some ⟨g, 0, none⟩), u2, u3, u4, u5, u6, u7, u8, u9, u10, u11, u12, u13, u14], []⟩ ∧ Below W0.heap.size W0 v ∧ (L.getD 0 false = true → u4 = .pointer (some ⟨g, 0, none⟩)) ∧ (L.getD 1 false = true → u5 = .int .i64 x.1) ∧ (L.getD 2 false = true → ∃ q, u6 = .slice (some ⟨q, 0, none⟩) 1 1 ∧ v.ownsRow W0.heap.size 3 1 (.slice (some ⟨q, 0, none⟩) 1 1) 1 [.int .i64 x.1]) ∧ (L.getD 3 false = true → v.ownsRow W0.heap.size 5 1 u7 1 (bytesV [byteO x.1])) ∧ (L.getD 4 false = true → u8 = .pointer (some ⟨g, 1, none⟩)) ∧ (L.getD 5 false = true → u9 = .int .i64 x.2) ∧ (L.getD 6 false = true → v.ownsRow W0.heap.size 5 1 u10 9 (bytesV (cstL x))) ∧ (L.getD 7 false = true → u11 = .pointer (some ⟨g, 0, none⟩)) ∧ (L.getD 8 false = true → u12 = .int .i64 x.1) ∧ (L.getD 9 false = true → ∃ q, u13 = .slice (some ⟨q, 0, none⟩) 1 1 ∧ v.ownsRow W0.heap.size 3 1 (.slice (some ⟨q, 0, none⟩) 1 1) 1 [.int .i64 x.1]) ∧ (L.getD 10 false = true → u14 = .bool (fitB x.1)) ∧ (L.getD 11 false = true → v.ownsRow W0.heap.size 5 1 u2 9 (bytesV (cstL x))) ∧ (L.getD 12 false = true → u3 = .bool (fitB x.1))) (by kernel_rfl) (by kernel_rfl) (by kernel_rfl) ?_ ?_ ?_
  · refine ⟨_, _, _, _, _, _, _, _, _, _, _, _, _, rfl, (Below.refl _ _).drew, flag_new, flag_new, flag_new, flag_new, flag_new, flag_new, flag_new, flag_new, flag_new, flag_new, flag_new, flag_new, flag_new⟩
  · refine AllSteps.succ (AllSteps.succ (AllSteps.succ (AllSteps.succ (AllSteps.succ (AllSteps.succ (AllSteps.succ (AllSteps.succ (AllSteps.succ (AllSteps.succ (AllSteps.succ (AllSteps.succ (AllSteps.succ AllSteps.zero ?_) ?_) ?_) ?_) ?_) ?_) ?_) ?_) ?_) ?_) ?_) ?_) ?_
    · refine StepAt.mk (o := { dst := some 4, op := Op.fieldAddr 61 (Operand.tmp 1) 0, type := 0, pos := _, after := #[], guard := none }) (ws := []) rfl (by kernel_rfl) ?_
      intro L b v hC h0 hA h
      refine h.elim ?_; clear h; intro u2 h
      refine h.elim ?_; clear h; intro u3 h
      refine h.elim ?_; clear h; intro u4 h
      refine h.elim ?_; clear h; intro u5 h
      refine h.elim ?_; clear h; intro u6 h
      refine h.elim ?_; clear h; intro u7 h
      refine h.elim ?_; clear h; intro u8 h
      refine h.elim ?_; clear h; intro u9 h
      refine h.elim ?_; clear h; intro u10 h
      refine h.elim ?_; clear h; intro u11 h
      refine h.elim ?_; clear h; intro u12 h
      refine h.elim ?_; clear h; intro u13 h
      refine h.elim ?_; clear h; intro u14 h
      have hbb := h.1; replace h := h.2; subst hbb
      have hHeld := h.1; replace h := h.2
      have f0 := h.1; replace h := h.2
      have f1 := h.1; replace h := h.2
      have f2 := h.1; replace h := h.2
      have f3 := h.1; replace h := h.2
      have f4 := h.1; replace h := h.2
      have f5 := h.1; replace h := h.2
      have f6 := h.1; replace h := h.2
      have f7 := h.1; replace h := h.2
      have f8 := h.1; replace h := h.2
      have f9 := h.1; replace h := h.2
      have f10 := h.1; replace h := h.2
      have f11 := h.1; replace h := h.2
      have f12 := h; clear h
      intro K hK
      rw [if_pos (by kernel_rfl)]
      have q0 := cellB hHeld C0 hg
      have q1 := cellB hHeld C1 hg
      go_simp
      try simp only [Act.put, List.setIfInBounds_toArray, List.set_cons_zero, List.set_cons_succ]
      refine hK.out _ _ ⟨_, _, _, _, _, _, _, _, _, _, _, _, _, rfl, ?_, ?_, ?_, ?_, ?_, ?_, ?_, ?_, ?_, ?_, ?_, ?_, ?_, ?_⟩
      · first | exact hHeld | exact hHeld.trans (hb.mono hHeld.size) | (trace_state; fail)
      · intro _; first | rfl | (trace_state; fail)
      · first | exact flag_ne (by decide) f1 | exact fun _ => rfl
      · intro h; rw [getD_set_ne false (by decide)] at h; exact (getD_no h0 (hC.step (j := 1) (k := 0) (hC.step (j := 2) (k := 1) h (by kernel_rfl)) (by kernel_rfl))).elim
      · intro h; rw [getD_set_ne false (by decide)] at h; exact (getD_no h0 (hC.step (j := 1) (k := 0) (hC.step (j := 2) (k := 1) (hC.step (j := 3) (k := 2) h (by kernel_rfl)) (by kernel_rfl)) (by kernel_rfl))).elim
      · first | exact flag_ne (by decide) f4 | exact fun _ => rfl
      · first | exact flag_ne (by decide) f5 | exact fun _ => rfl
      · intro h; rw [getD_set_ne false (by decide)] at h; exact (getD_no h0 (hC.step (j := 1) (k := 0) (hC.step (j := 2) (k := 1) (hC.step (j := 3) (k := 2) (hC.step (j := 6) (k := 3) h (by kernel_rfl)) (by kernel_rfl)) (by kernel_rfl)) (by kernel_rfl))).elim
      · first | exact flag_ne (by decide) f7 | exact fun _ => rfl
      · first | exact flag_ne (by decide) f8 | exact fun _ => rfl
      · intro h; rw [getD_set_ne false (by decide)] at h; have := f9 h; obtain ⟨q, e1, e2⟩ := this; exact (by first | exact ⟨q, e1, e2⟩ | exact ⟨q, e1, owns_below e2 hb⟩ | (trace_state; fail))
      · first | exact flag_ne (by decide) f10 | exact fun _ => rfl
      · intro h; rw [getD_set_ne false (by decide)] at h; exact (getD_no h0 (hC.step (j := 11) (k := 0) h (by kernel_rfl))).elim
      · first | exact flag_ne (by decide) f12 | exact fun _ => rfl
    · refine StepAt.mk (o := { dst := some 5, op := Op.load 3 (Operand.tmp 4), type := 3, pos := _, after := #[{ on := 0, ground := Ground.data }], guard := none }) (ws := [0]) rfl (by kernel_rfl) ?_
      intro L b v hC h0 hA h
      refine h.elim ?_; clear h; intro u2 h
      refine h.elim ?_; clear h; intro u3 h
      refine h.elim ?_; clear h; intro u4 h
      refine h.elim ?_; clear h; intro u5 h
      refine h.elim ?_; clear h; intro u6 h
      refine h.elim ?_; clear h; intro u7 h
      refine h.elim ?_; clear h; intro u8 h
      refine h.elim ?_; clear h; intro u9 h
      refine h.elim ?_; clear h; intro u10 h
      refine h.elim ?_; clear h; intro u11 h
      refine h.elim ?_; clear h; intro u12 h
      refine h.elim ?_; clear h; intro u13 h
      refine h.elim ?_; clear h; intro u14 h
      have hbb := h.1; replace h := h.2; subst hbb
      have hHeld := h.1; replace h := h.2
      have f0 := h.1; replace h := h.2
      have f1 := h.1; replace h := h.2
      have f2 := h.1; replace h := h.2
      have f3 := h.1; replace h := h.2
      have f4 := h.1; replace h := h.2
      have f5 := h.1; replace h := h.2
      have f6 := h.1; replace h := h.2
      have f7 := h.1; replace h := h.2
      have f8 := h.1; replace h := h.2
      have f9 := h.1; replace h := h.2
      have f10 := h.1; replace h := h.2
      have f11 := h.1; replace h := h.2
      have f12 := h; clear h
      intro K hK
      have g0 := f0 (hA 0 (by simp))
      obtain rfl := g0
      rw [if_pos (by kernel_rfl)]
      have q0 := cellB hHeld C0 hg
      have q1 := cellB hHeld C1 hg
      go_simp
      try simp only [Act.put, List.setIfInBounds_toArray, List.set_cons_zero, List.set_cons_succ]
      refine hK.out _ _ ⟨_, _, _, _, _, _, _, _, _, _, _, _, _, rfl, ?_, ?_, ?_, ?_, ?_, ?_, ?_, ?_, ?_, ?_, ?_, ?_, ?_, ?_⟩
      · first | exact hHeld | exact hHeld.trans (hb.mono hHeld.size) | (trace_state; fail)
      · first | exact flag_ne (by decide) f0 | exact fun _ => rfl
      · intro _; first | rfl | (trace_state; fail)
      · intro h; rw [getD_set_ne false (by decide)] at h; exact (getD_no h0 (hC.step (j := 2) (k := 1) h (by kernel_rfl))).elim
      · intro h; rw [getD_set_ne false (by decide)] at h; exact (getD_no h0 (hC.step (j := 2) (k := 1) (hC.step (j := 3) (k := 2) h (by kernel_rfl)) (by kernel_rfl))).elim
      · first | exact flag_ne (by decide) f4 | exact fun _ => rfl
      · first | exact flag_ne (by decide) f5 | exact fun _ => rfl
      · intro h; rw [getD_set_ne false (by decide)] at h; exact (getD_no h0 (hC.step (j := 2) (k := 1) (hC.step (j := 3) (k := 2) (hC.step (j := 6) (k := 3) h (by kernel_rfl)) (by kernel_rfl)) (by kernel_rfl))).elim
      · first | exact flag_ne (by decide) f7 | exact fun _ => rfl
      · first | exact flag_ne (by decide) f8 | exact fun _ => rfl
      · intro h; rw [getD_set_ne false (by decide)] at h; have := f9 h; obtain ⟨q, e1, e2⟩ := this; exact (by first | exact ⟨q, e1, e2⟩ | exact ⟨q, e1, owns_below e2 hb⟩ | (trace_state; fail))
      · first | exact flag_ne (by decide) f10 | exact fun _ => rfl
      · intro h; rw [getD_set_ne false (by decide)] at h; exact (getD_no h0 (hC.step (j := 11) (k := 1) h (by kernel_rfl))).elim
      · first | exact flag_ne (by decide) f12 | exact fun _ => rfl
    · refine StepAt.mk (o := { dst := some 6, op := Op.buildSlice 45 1 #[(0, Operand.tmp 5)], type := 45, pos := _, after := #[{ on := 1, ground := Ground.data }], guard := none }) (ws := [1]) rfl (by kernel_rfl) ?_
      intro L b v hC h0 hA h
      refine h.elim ?_; clear h; intro u2 h
      refine h.elim ?_; clear h; intro u3 h
      refine h.elim ?_; clear h; intro u4 h
      refine h.elim ?_; clear h; intro u5 h
      refine h.elim ?_; clear h; intro u6 h
      refine h.elim ?_; clear h; intro u7 h
      refine h.elim ?_; clear h; intro u8 h
      refine h.elim ?_; clear h; intro u9 h
      refine h.elim ?_; clear h; intro u10 h
      refine h.elim ?_; clear h; intro u11 h
      refine h.elim ?_; clear h; intro u12 h
      refine h.elim ?_; clear h; intro u13 h
      refine h.elim ?_; clear h; intro u14 h
      have hbb := h.1; replace h := h.2; subst hbb
      have hHeld := h.1; replace h := h.2
      have f0 := h.1; replace h := h.2
      have f1 := h.1; replace h := h.2
      have f2 := h.1; replace h := h.2
      have f3 := h.1; replace h := h.2
      have f4 := h.1; replace h := h.2
      have f5 := h.1; replace h := h.2
      have f6 := h.1; replace h := h.2
      have f7 := h.1; replace h := h.2
      have f8 := h.1; replace h := h.2
      have f9 := h.1; replace h := h.2
      have f10 := h.1; replace h := h.2
      have f11 := h.1; replace h := h.2
      have f12 := h; clear h
      intro K hK
      have g1 := f1 (hA 1 (by simp))
      obtain rfl := g1
      rw [if_pos (by kernel_rfl)]
      have q0 := cellB hHeld C0 hg
      have q1 := cellB hHeld C1 hg
      go_simp
      try simp only [Act.put, List.setIfInBounds_toArray, List.set_cons_zero, List.set_cons_succ]
      have hb : Below v.heap.size v (v.alloc (.cells #[.int .i64 x.1] 3)) := (Below.refl _ _).alloc (Nat.le_refl _) _
      refine hK.out _ _ ⟨_, _, _, _, _, _, _, _, _, _, _, _, _, rfl, ?_, ?_, ?_, ?_, ?_, ?_, ?_, ?_, ?_, ?_, ?_, ?_, ?_, ?_⟩
      · first | exact hHeld | exact hHeld.trans (hb.mono hHeld.size) | (trace_state; fail)
      · first | exact flag_ne (by decide) f0 | exact fun _ => rfl
      · first | exact flag_ne (by decide) f1 | exact fun _ => rfl
      · intro _; first | exact ⟨_, rfl, owns_int1 _ x.1 hHeld.size⟩ | (trace_state; fail)
      · intro h; rw [getD_set_ne false (by decide)] at h; exact (getD_no h0 (hC.step (j := 3) (k := 2) h (by kernel_rfl))).elim
      · first | exact flag_ne (by decide) f4 | exact fun _ => rfl
      · first | exact flag_ne (by decide) f5 | exact fun _ => rfl
      · intro h; rw [getD_set_ne false (by decide)] at h; exact (getD_no h0 (hC.step (j := 3) (k := 2) (hC.step (j := 6) (k := 3) h (by kernel_rfl)) (by kernel_rfl))).elim
      · first | exact flag_ne (by decide) f7 | exact fun _ => rfl
      · first | exact flag_ne (by decide) f8 | exact fun _ => rfl
      · intro h; rw [getD_set_ne false (by decide)] at h; have := f9 h; obtain ⟨q, e1, e2⟩ := this; exact (by first | exact ⟨q, e1, e2⟩ | exact ⟨q, e1, owns_below e2 hb⟩ | (trace_state; fail))
      · first | exact flag_ne (by decide) f10 | exact fun _ => rfl
      · intro h; rw [getD_set_ne false (by decide)] at h; exact (getD_no h0 (hC.step (j := 11) (k := 2) h (by kernel_rfl))).elim
      · first | exact flag_ne (by decide) f12 | exact fun _ => rfl
    · refine StepAt.mk (o := { dst := some 7, op := Op.call { callee := Callee.value (Operand.func 47), args := #[Operand.tmp 6], argTypes := #[45] }, type := 30, pos := _, after := #[{ on := 2, ground := Ground.data }], guard := none }) (ws := [2]) rfl (by kernel_rfl) ?_
      intro L b v hC h0 hA h
      refine h.elim ?_; clear h; intro u2 h
      refine h.elim ?_; clear h; intro u3 h
      refine h.elim ?_; clear h; intro u4 h
      refine h.elim ?_; clear h; intro u5 h
      refine h.elim ?_; clear h; intro u6 h
      refine h.elim ?_; clear h; intro u7 h
      refine h.elim ?_; clear h; intro u8 h
      refine h.elim ?_; clear h; intro u9 h
      refine h.elim ?_; clear h; intro u10 h
      refine h.elim ?_; clear h; intro u11 h
      refine h.elim ?_; clear h; intro u12 h
      refine h.elim ?_; clear h; intro u13 h
      refine h.elim ?_; clear h; intro u14 h
      have hbb := h.1; replace h := h.2; subst hbb
      have hHeld := h.1; replace h := h.2
      have f0 := h.1; replace h := h.2
      have f1 := h.1; replace h := h.2
      have f2 := h.1; replace h := h.2
      have f3 := h.1; replace h := h.2
      have f4 := h.1; replace h := h.2
      have f5 := h.1; replace h := h.2
      have f6 := h.1; replace h := h.2
      have f7 := h.1; replace h := h.2
      have f8 := h.1; replace h := h.2
      have f9 := h.1; replace h := h.2
      have f10 := h.1; replace h := h.2
      have f11 := h.1; replace h := h.2
      have f12 := h; clear h
      intro K hK
      have g2 := f2 (hA 2 (by simp))
      obtain ⟨q6, rfl, H6⟩ := g2
      rw [if_pos (by kernel_rfl)]
      have q0 := cellB hHeld C0 hg
      have q1 := cellB hHeld C1 hg
      go_simp
      refine (tab_bytesOf _ [x.1] v (row_of_owns H6 (fun z hz => by simp at hz; exact hz ▸ h1)) (by simp)).mono ?_; rintro e v1 ⟨r, rfl, HO, hb⟩
      go_wp2_with fail
      try simp only [Act.put, List.setIfInBounds_toArray, List.set_cons_zero, List.set_cons_succ]
      refine hK.out _ _ ⟨_, _, _, _, _, _, _, _, _, _, _, _, _, rfl, ?_, ?_, ?_, ?_, ?_, ?_, ?_, ?_, ?_, ?_, ?_, ?_, ?_, ?_⟩
      · first | exact hHeld | exact hHeld.trans (hb.mono hHeld.size) | (trace_state; fail)
      · first | exact flag_ne (by decide) f0 | exact fun _ => rfl
      · first | exact flag_ne (by decide) f1 | exact fun _ => rfl
      · intro h; rw [getD_set_ne false (by decide)] at h; have := f2 h; obtain ⟨q, e1, e2⟩ := this; exact (by first | exact ⟨q, e1, e2⟩ | exact ⟨q, e1, owns_below e2 hb⟩ | (trace_state; fail))
      · intro _; first | exact own_low HO hHeld.size | (trace_state; fail)
      · first | exact flag_ne (by decide) f4 | exact fun _ => rfl
      · first | exact flag_ne (by decide) f5 | exact fun _ => rfl
      · intro h; rw [getD_set_ne false (by decide)] at h; exact (getD_no h0 (hC.step (j := 6) (k := 3) h (by kernel_rfl))).elim
      · first | exact flag_ne (by decide) f7 | exact fun _ => rfl
      · first | exact flag_ne (by decide) f8 | exact fun _ => rfl
      · intro h; rw [getD_set_ne false (by decide)] at h; have := f9 h; obtain ⟨q, e1, e2⟩ := this; exact (by first | exact ⟨q, e1, e2⟩ | exact ⟨q, e1, owns_below e2 hb⟩ | (trace_state; fail))
      · first | exact flag_ne (by decide) f10 | exact fun _ => rfl
      · intro h; rw [getD_set_ne false (by decide)] at h; exact (getD_no h0 (hC.step (j := 11) (k := 3) h (by kernel_rfl))).elim
      · first | exact flag_ne (by decide) f12 | exact fun _ => rfl
    · refine StepAt.mk (o := { dst := some 8, op := Op.fieldAddr 61 (Operand.tmp 1) 1, type := 0, pos := _, after := #[], guard := none }) (ws := []) rfl (by kernel_rfl) ?_
      intro L b v hC h0 hA h
      refine h.elim ?_; clear h; intro u2 h
      refine h.elim ?_; clear h; intro u3 h
      refine h.elim ?_; clear h; intro u4 h
      refine h.elim ?_; clear h; intro u5 h
      refine h.elim ?_; clear h; intro u6 h
      refine h.elim ?_; clear h; intro u7 h
      refine h.elim ?_; clear h; intro u8 h
      refine h.elim ?_; clear h; intro u9 h
      refine h.elim ?_; clear h; intro u10 h
      refine h.elim ?_; clear h; intro u11 h
      refine h.elim ?_; clear h; intro u12 h
      refine h.elim ?_; clear h; intro u13 h
      refine h.elim ?_; clear h; intro u14 h
      have hbb := h.1; replace h := h.2; subst hbb
      have hHeld := h.1; replace h := h.2
      have f0 := h.1; replace h := h.2
      have f1 := h.1; replace h := h.2
      have f2 := h.1; replace h := h.2
      have f3 := h.1; replace h := h.2
      have f4 := h.1; replace h := h.2
      have f5 := h.1; replace h := h.2
      have f6 := h.1; replace h := h.2
      have f7 := h.1; replace h := h.2
      have f8 := h.1; replace h := h.2
      have f9 := h.1; replace h := h.2
      have f10 := h.1; replace h := h.2
      have f11 := h.1; replace h := h.2
      have f12 := h; clear h
      intro K hK
      rw [if_pos (by kernel_rfl)]
      have q0 := cellB hHeld C0 hg
      have q1 := cellB hHeld C1 hg
      go_simp
      try simp only [Act.put, List.setIfInBounds_toArray, List.set_cons_zero, List.set_cons_succ]
      refine hK.out _ _ ⟨_, _, _, _, _, _, _, _, _, _, _, _, _, rfl, ?_, ?_, ?_, ?_, ?_, ?_, ?_, ?_, ?_, ?_, ?_, ?_, ?_, ?_⟩
      · first | exact hHeld | exact hHeld.trans (hb.mono hHeld.size) | (trace_state; fail)
      · first | exact flag_ne (by decide) f0 | exact fun _ => rfl
      · first | exact flag_ne (by decide) f1 | exact fun _ => rfl
      · intro h; rw [getD_set_ne false (by decide)] at h; have := f2 h; obtain ⟨q, e1, e2⟩ := this; exact (by first | exact ⟨q, e1, e2⟩ | exact ⟨q, e1, owns_below e2 hb⟩ | (trace_state; fail))
      · intro h; rw [getD_set_ne false (by decide)] at h; have := f3 h; first | exact this | exact owns_below this hb | (trace_state; fail)
      · intro _; first | rfl | (trace_state; fail)
      · first | exact flag_ne (by decide) f5 | exact fun _ => rfl
      · intro h; rw [getD_set_ne false (by decide)] at h; exact (getD_no h0 (hC.step (j := 5) (k := 4) (hC.step (j := 6) (k := 5) h (by kernel_rfl)) (by kernel_rfl))).elim
      · first | exact flag_ne (by decide) f7 | exact fun _ => rfl
      · first | exact flag_ne (by decide) f8 | exact fun _ => rfl
      · intro h; rw [getD_set_ne false (by decide)] at h; have := f9 h; obtain ⟨q, e1, e2⟩ := this; exact (by first | exact ⟨q, e1, e2⟩ | exact ⟨q, e1, owns_below e2 hb⟩ | (trace_state; fail))
      · first | exact flag_ne (by decide) f10 | exact fun _ => rfl
      · intro h; rw [getD_set_ne false (by decide)] at h; exact (getD_no h0 (hC.step (j := 11) (k := 4) h (by kernel_rfl))).elim
      · first | exact flag_ne (by decide) f12 | exact fun _ => rfl
    · refine StepAt.mk (o := { dst := some 9, op := Op.load 3 (Operand.tmp 8), type := 3, pos := _, after := #[{ on := 4, ground := Ground.data }], guard := none }) (ws := [4]) rfl (by kernel_rfl) ?_
      intro L b v hC h0 hA h
      refine h.elim ?_; clear h; intro u2 h
      refine h.elim ?_; clear h; intro u3 h
      refine h.elim ?_; clear h; intro u4 h
      refine h.elim ?_; clear h; intro u5 h
      refine h.elim ?_; clear h; intro u6 h
      refine h.elim ?_; clear h; intro u7 h
      refine h.elim ?_; clear h; intro u8 h
      refine h.elim ?_; clear h; intro u9 h
      refine h.elim ?_; clear h; intro u10 h
      refine h.elim ?_; clear h; intro u11 h
      refine h.elim ?_; clear h; intro u12 h
      refine h.elim ?_; clear h; intro u13 h
      refine h.elim ?_; clear h; intro u14 h
      have hbb := h.1; replace h := h.2; subst hbb
      have hHeld := h.1; replace h := h.2
      have f0 := h.1; replace h := h.2
      have f1 := h.1; replace h := h.2
      have f2 := h.1; replace h := h.2
      have f3 := h.1; replace h := h.2
      have f4 := h.1; replace h := h.2
      have f5 := h.1; replace h := h.2
      have f6 := h.1; replace h := h.2
      have f7 := h.1; replace h := h.2
      have f8 := h.1; replace h := h.2
      have f9 := h.1; replace h := h.2
      have f10 := h.1; replace h := h.2
      have f11 := h.1; replace h := h.2
      have f12 := h; clear h
      intro K hK
      have g4 := f4 (hA 4 (by simp))
      obtain rfl := g4
      rw [if_pos (by kernel_rfl)]
      have q0 := cellB hHeld C0 hg
      have q1 := cellB hHeld C1 hg
      go_simp
      try simp only [Act.put, List.setIfInBounds_toArray, List.set_cons_zero, List.set_cons_succ]
      refine hK.out _ _ ⟨_, _, _, _, _, _, _, _, _, _, _, _, _, rfl, ?_, ?_, ?_, ?_, ?_, ?_, ?_, ?_, ?_, ?_, ?_, ?_, ?_, ?_⟩
      · first | exact hHeld | exact hHeld.trans (hb.mono hHeld.size) | (trace_state; fail)
      · first | exact flag_ne (by decide) f0 | exact fun _ => rfl
      · first | exact flag_ne (by decide) f1 | exact fun _ => rfl
      · intro h; rw [getD_set_ne false (by decide)] at h; have := f2 h; obtain ⟨q, e1, e2⟩ := this; exact (by first | exact ⟨q, e1, e2⟩ | exact ⟨q, e1, owns_below e2 hb⟩ | (trace_state; fail))
      · intro h; rw [getD_set_ne false (by decide)] at h; have := f3 h; first | exact this | exact owns_below this hb | (trace_state; fail)
      · first | exact flag_ne (by decide) f4 | exact fun _ => rfl
      · intro _; first | rfl | (trace_state; fail)
      · intro h; rw [getD_set_ne false (by decide)] at h; exact (getD_no h0 (hC.step (j := 6) (k := 5) h (by kernel_rfl))).elim
      · first | exact flag_ne (by decide) f7 | exact fun _ => rfl
      · first | exact flag_ne (by decide) f8 | exact fun _ => rfl
      · intro h; rw [getD_set_ne false (by decide)] at h; have := f9 h; obtain ⟨q, e1, e2⟩ := this; exact (by first | exact ⟨q, e1, e2⟩ | exact ⟨q, e1, owns_below e2 hb⟩ | (trace_state; fail))
      · first | exact flag_ne (by decide) f10 | exact fun _ => rfl
      · intro h; rw [getD_set_ne false (by decide)] at h; exact (getD_no h0 (hC.step (j := 11) (k := 5) h (by kernel_rfl))).elim
      · first | exact flag_ne (by decide) f12 | exact fun _ => rfl
    · refine StepAt.mk (o := { dst := some 10, op := Op.call { callee := Callee.value (Operand.func 22), args := #[Operand.tmp 7, Operand.const (Value.int IntKind.i64 8), Operand.tmp 9], argTypes := #[30, 3, 3] }, type := 30, pos := _, after := #[{ on := 3, ground := Ground.data }, { on := 5, ground := Ground.data }, { on := 3, ground := Ground.chain }], guard := none }) (ws := [3, 5, 3]) rfl (by kernel_rfl) ?_
      intro L b v hC h0 hA h
      refine h.elim ?_; clear h; intro u2 h
      refine h.elim ?_; clear h; intro u3 h
      refine h.elim ?_; clear h; intro u4 h
      refine h.elim ?_; clear h; intro u5 h
      refine h.elim ?_; clear h; intro u6 h
      refine h.elim ?_; clear h; intro u7 h
      refine h.elim ?_; clear h; intro u8 h
      refine h.elim ?_; clear h; intro u9 h
      refine h.elim ?_; clear h; intro u10 h
      refine h.elim ?_; clear h; intro u11 h
      refine h.elim ?_; clear h; intro u12 h
      refine h.elim ?_; clear h; intro u13 h
      refine h.elim ?_; clear h; intro u14 h
      have hbb := h.1; replace h := h.2; subst hbb
      have hHeld := h.1; replace h := h.2
      have f0 := h.1; replace h := h.2
      have f1 := h.1; replace h := h.2
      have f2 := h.1; replace h := h.2
      have f3 := h.1; replace h := h.2
      have f4 := h.1; replace h := h.2
      have f5 := h.1; replace h := h.2
      have f6 := h.1; replace h := h.2
      have f7 := h.1; replace h := h.2
      have f8 := h.1; replace h := h.2
      have f9 := h.1; replace h := h.2
      have f10 := h.1; replace h := h.2
      have f11 := h.1; replace h := h.2
      have f12 := h; clear h
      intro K hK
      have g3 := f3 (hA 3 (by simp))
      have g5 := f5 (hA 5 (by simp))
      obtain rfl := g5
      rw [if_pos (by kernel_rfl)]
      have q0 := cellB hHeld C0 hg
      have q1 := cellB hHeld C1 hg
      go_simp
      refine (octet_Put u7 [byteO x.1] 8 x.2 v (RowAt.owns g3 (fun i hi => byteV_at hi)) (by simp)).mono ?_; rintro e v1 ⟨r, rfl, HO, hb⟩
      go_wp2_with fail
      try simp only [Act.put, List.setIfInBounds_toArray, List.set_cons_zero, List.set_cons_succ]
      refine hK.out _ _ ⟨_, _, _, _, _, _, _, _, _, _, _, _, _, rfl, ?_, ?_, ?_, ?_, ?_, ?_, ?_, ?_, ?_, ?_, ?_, ?_, ?_, ?_⟩
      · first | exact hHeld | exact hHeld.trans (hb.mono hHeld.size) | (trace_state; fail)
      · first | exact flag_ne (by decide) f0 | exact fun _ => rfl
      · first | exact flag_ne (by decide) f1 | exact fun _ => rfl
      · intro h; rw [getD_set_ne false (by decide)] at h; have := f2 h; obtain ⟨q, e1, e2⟩ := this; exact (by first | exact ⟨q, e1, e2⟩ | exact ⟨q, e1, owns_below e2 hb⟩ | (trace_state; fail))
      · intro h; rw [getD_set_ne false (by decide)] at h; have := f3 h; first | exact this | exact owns_below this hb | (trace_state; fail)
      · first | exact flag_ne (by decide) f4 | exact fun _ => rfl
      · first | exact flag_ne (by decide) f5 | exact fun _ => rfl
      · intro _; first | exact own_low HO hHeld.size | (trace_state; fail)
      · first | exact flag_ne (by decide) f7 | exact fun _ => rfl
      · first | exact flag_ne (by decide) f8 | exact fun _ => rfl
      · intro h; rw [getD_set_ne false (by decide)] at h; have := f9 h; obtain ⟨q, e1, e2⟩ := this; exact (by first | exact ⟨q, e1, e2⟩ | exact ⟨q, e1, owns_below e2 hb⟩ | (trace_state; fail))
      · first | exact flag_ne (by decide) f10 | exact fun _ => rfl
      · intro h; rw [getD_set_ne false (by decide)] at h; exact (getD_no h0 (hC.step (j := 11) (k := 6) h (by kernel_rfl))).elim
      · first | exact flag_ne (by decide) f12 | exact fun _ => rfl
    · refine StepAt.mk (o := { dst := some 11, op := Op.fieldAddr 61 (Operand.tmp 1) 0, type := 0, pos := _, after := #[], guard := none }) (ws := []) rfl (by kernel_rfl) ?_
      intro L b v hC h0 hA h
      refine h.elim ?_; clear h; intro u2 h
      refine h.elim ?_; clear h; intro u3 h
      refine h.elim ?_; clear h; intro u4 h
      refine h.elim ?_; clear h; intro u5 h
      refine h.elim ?_; clear h; intro u6 h
      refine h.elim ?_; clear h; intro u7 h
      refine h.elim ?_; clear h; intro u8 h
      refine h.elim ?_; clear h; intro u9 h
      refine h.elim ?_; clear h; intro u10 h
      refine h.elim ?_; clear h; intro u11 h
      refine h.elim ?_; clear h; intro u12 h
      refine h.elim ?_; clear h; intro u13 h
      refine h.elim ?_; clear h; intro u14 h
      have hbb := h.1; replace h := h.2; subst hbb
      have hHeld := h.1; replace h := h.2
      have f0 := h.1; replace h := h.2
      have f1 := h.1; replace h := h.2
      have f2 := h.1; replace h := h.2
      have f3 := h.1; replace h := h.2
      have f4 := h.1; replace h := h.2
      have f5 := h.1; replace h := h.2
      have f6 := h.1; replace h := h.2
      have f7 := h.1; replace h := h.2
      have f8 := h.1; replace h := h.2
      have f9 := h.1; replace h := h.2
      have f10 := h.1; replace h := h.2
      have f11 := h.1; replace h := h.2
      have f12 := h; clear h
      intro K hK
      rw [if_pos (by kernel_rfl)]
      have q0 := cellB hHeld C0 hg
      have q1 := cellB hHeld C1 hg
      go_simp
      try simp only [Act.put, List.setIfInBounds_toArray, List.set_cons_zero, List.set_cons_succ]
      refine hK.out _ _ ⟨_, _, _, _, _, _, _, _, _, _, _, _, _, rfl, ?_, ?_, ?_, ?_, ?_, ?_, ?_, ?_, ?_, ?_, ?_, ?_, ?_, ?_⟩
      · first | exact hHeld | exact hHeld.trans (hb.mono hHeld.size) | (trace_state; fail)
      · first | exact flag_ne (by decide) f0 | exact fun _ => rfl
      · first | exact flag_ne (by decide) f1 | exact fun _ => rfl
      · intro h; rw [getD_set_ne false (by decide)] at h; have := f2 h; obtain ⟨q, e1, e2⟩ := this; exact (by first | exact ⟨q, e1, e2⟩ | exact ⟨q, e1, owns_below e2 hb⟩ | (trace_state; fail))
      · intro h; rw [getD_set_ne false (by decide)] at h; have := f3 h; first | exact this | exact owns_below this hb | (trace_state; fail)
      · first | exact flag_ne (by decide) f4 | exact fun _ => rfl
      · first | exact flag_ne (by decide) f5 | exact fun _ => rfl
      · intro h; rw [getD_set_ne false (by decide)] at h; have := f6 h; first | exact this | exact owns_below this hb | (trace_state; fail)
      · intro _; first | rfl | (trace_state; fail)
      · first | exact flag_ne (by decide) f8 | exact fun _ => rfl
      · intro h; rw [getD_set_ne false (by decide)] at h; exact (getD_no h0 (hC.step (j := 8) (k := 7) (hC.step (j := 9) (k := 8) h (by kernel_rfl)) (by kernel_rfl))).elim
      · first | exact flag_ne (by decide) f10 | exact fun _ => rfl
      · intro h; rw [getD_set_ne false (by decide)] at h; exact (getD_no h0 (hC.step (j := 8) (k := 7) (hC.step (j := 9) (k := 8) (hC.step (j := 10) (k := 9) (hC.step (j := 11) (k := 10) h (by kernel_rfl)) (by kernel_rfl)) (by kernel_rfl)) (by kernel_rfl))).elim
      · first | exact flag_ne (by decide) f12 | exact fun _ => rfl
    · refine StepAt.mk (o := { dst := some 12, op := Op.load 3 (Operand.tmp 11), type := 3, pos := _, after := #[{ on := 7, ground := Ground.data }], guard := none }) (ws := [7]) rfl (by kernel_rfl) ?_
      intro L b v hC h0 hA h
      refine h.elim ?_; clear h; intro u2 h
      refine h.elim ?_; clear h; intro u3 h
      refine h.elim ?_; clear h; intro u4 h
      refine h.elim ?_; clear h; intro u5 h
      refine h.elim ?_; clear h; intro u6 h
      refine h.elim ?_; clear h; intro u7 h
      refine h.elim ?_; clear h; intro u8 h
      refine h.elim ?_; clear h; intro u9 h
      refine h.elim ?_; clear h; intro u10 h
      refine h.elim ?_; clear h; intro u11 h
      refine h.elim ?_; clear h; intro u12 h
      refine h.elim ?_; clear h; intro u13 h
      refine h.elim ?_; clear h; intro u14 h
      have hbb := h.1; replace h := h.2; subst hbb
      have hHeld := h.1; replace h := h.2
      have f0 := h.1; replace h := h.2
      have f1 := h.1; replace h := h.2
      have f2 := h.1; replace h := h.2
      have f3 := h.1; replace h := h.2
      have f4 := h.1; replace h := h.2
      have f5 := h.1; replace h := h.2
      have f6 := h.1; replace h := h.2
      have f7 := h.1; replace h := h.2
      have f8 := h.1; replace h := h.2
      have f9 := h.1; replace h := h.2
      have f10 := h.1; replace h := h.2
      have f11 := h.1; replace h := h.2
      have f12 := h; clear h
      intro K hK
      have g7 := f7 (hA 7 (by simp))
      obtain rfl := g7
      rw [if_pos (by kernel_rfl)]
      have q0 := cellB hHeld C0 hg
      have q1 := cellB hHeld C1 hg
      go_simp
      try simp only [Act.put, List.setIfInBounds_toArray, List.set_cons_zero, List.set_cons_succ]
      refine hK.out _ _ ⟨_, _, _, _, _, _, _, _, _, _, _, _, _, rfl, ?_, ?_, ?_, ?_, ?_, ?_, ?_, ?_, ?_, ?_, ?_, ?_, ?_, ?_⟩
      · first | exact hHeld | exact hHeld.trans (hb.mono hHeld.size) | (trace_state; fail)
      · first | exact flag_ne (by decide) f0 | exact fun _ => rfl
      · first | exact flag_ne (by decide) f1 | exact fun _ => rfl
      · intro h; rw [getD_set_ne false (by decide)] at h; have := f2 h; obtain ⟨q, e1, e2⟩ := this; exact (by first | exact ⟨q, e1, e2⟩ | exact ⟨q, e1, owns_below e2 hb⟩ | (trace_state; fail))
      · intro h; rw [getD_set_ne false (by decide)] at h; have := f3 h; first | exact this | exact owns_below this hb | (trace_state; fail)
      · first | exact flag_ne (by decide) f4 | exact fun _ => rfl
      · first | exact flag_ne (by decide) f5 | exact fun _ => rfl
      · intro h; rw [getD_set_ne false (by decide)] at h; have := f6 h; first | exact this | exact owns_below this hb | (trace_state; fail)
      · first | exact flag_ne (by decide) f7 | exact fun _ => rfl
      · intro _; first | rfl | (trace_state; fail)
      · intro h; rw [getD_set_ne false (by decide)] at h; exact (getD_no h0 (hC.step (j := 9) (k := 8) h (by kernel_rfl))).elim
      · first | exact flag_ne (by decide) f10 | exact fun _ => rfl
      · intro h; rw [getD_set_ne false (by decide)] at h; exact (getD_no h0 (hC.step (j := 9) (k := 8) (hC.step (j := 10) (k := 9) (hC.step (j := 11) (k := 10) h (by kernel_rfl)) (by kernel_rfl)) (by kernel_rfl))).elim
      · first | exact flag_ne (by decide) f12 | exact fun _ => rfl
    · refine StepAt.mk (o := { dst := some 13, op := Op.buildSlice 45 1 #[(0, Operand.tmp 12)], type := 45, pos := _, after := #[{ on := 8, ground := Ground.data }], guard := none }) (ws := [8]) rfl (by kernel_rfl) ?_
      intro L b v hC h0 hA h
      refine h.elim ?_; clear h; intro u2 h
      refine h.elim ?_; clear h; intro u3 h
      refine h.elim ?_; clear h; intro u4 h
      refine h.elim ?_; clear h; intro u5 h
      refine h.elim ?_; clear h; intro u6 h
      refine h.elim ?_; clear h; intro u7 h
      refine h.elim ?_; clear h; intro u8 h
      refine h.elim ?_; clear h; intro u9 h
      refine h.elim ?_; clear h; intro u10 h
      refine h.elim ?_; clear h; intro u11 h
      refine h.elim ?_; clear h; intro u12 h
      refine h.elim ?_; clear h; intro u13 h
      refine h.elim ?_; clear h; intro u14 h
      have hbb := h.1; replace h := h.2; subst hbb
      have hHeld := h.1; replace h := h.2
      have f0 := h.1; replace h := h.2
      have f1 := h.1; replace h := h.2
      have f2 := h.1; replace h := h.2
      have f3 := h.1; replace h := h.2
      have f4 := h.1; replace h := h.2
      have f5 := h.1; replace h := h.2
      have f6 := h.1; replace h := h.2
      have f7 := h.1; replace h := h.2
      have f8 := h.1; replace h := h.2
      have f9 := h.1; replace h := h.2
      have f10 := h.1; replace h := h.2
      have f11 := h.1; replace h := h.2
      have f12 := h; clear h
      intro K hK
      have g8 := f8 (hA 8 (by simp))
      obtain rfl := g8
      rw [if_pos (by kernel_rfl)]
      have q0 := cellB hHeld C0 hg
      have q1 := cellB hHeld C1 hg
      go_simp
      try simp only [Act.put, List.setIfInBounds_toArray, List.set_cons_zero, List.set_cons_succ]
      have hb : Below v.heap.size v (v.alloc (.cells #[.int .i64 x.1] 3)) := (Below.refl _ _).alloc (Nat.le_refl _) _
      refine hK.out _ _ ⟨_, _, _, _, _, _, _, _, _, _, _, _, _, rfl, ?_, ?_, ?_, ?_, ?_, ?_, ?_, ?_, ?_, ?_, ?_, ?_, ?_, ?_⟩
      · first | exact hHeld | exact hHeld.trans (hb.mono hHeld.size) | (trace_state; fail)
      · first | exact flag_ne (by decide) f0 | exact fun _ => rfl
      · first | exact flag_ne (by decide) f1 | exact fun _ => rfl
      · intro h; rw [getD_set_ne false (by decide)] at h; have := f2 h; obtain ⟨q, e1, e2⟩ := this; exact (by first | exact ⟨q, e1, e2⟩ | exact ⟨q, e1, owns_below e2 hb⟩ | (trace_state; fail))
      · intro h; rw [getD_set_ne false (by decide)] at h; have := f3 h; first | exact this | exact owns_below this hb | (trace_state; fail)
      · first | exact flag_ne (by decide) f4 | exact fun _ => rfl
      · first | exact flag_ne (by decide) f5 | exact fun _ => rfl
      · intro h; rw [getD_set_ne false (by decide)] at h; have := f6 h; first | exact this | exact owns_below this hb | (trace_state; fail)
      · first | exact flag_ne (by decide) f7 | exact fun _ => rfl
      · first | exact flag_ne (by decide) f8 | exact fun _ => rfl
      · intro _; first | exact ⟨_, rfl, owns_int1 _ x.1 hHeld.size⟩ | (trace_state; fail)
      · first | exact flag_ne (by decide) f10 | exact fun _ => rfl
      · intro h; rw [getD_set_ne false (by decide)] at h; exact (getD_no h0 (hC.step (j := 10) (k := 9) (hC.step (j := 11) (k := 10) h (by kernel_rfl)) (by kernel_rfl))).elim
      · first | exact flag_ne (by decide) f12 | exact fun _ => rfl
    · refine StepAt.mk (o := { dst := some 14, op := Op.call { callee := Callee.value (Operand.func 48), args := #[Operand.tmp 13], argTypes := #[45] }, type := 4, pos := _, after := #[{ on := 9, ground := Ground.data }, { on := 6, ground := Ground.chain }], guard := none }) (ws := [9, 6]) rfl (by kernel_rfl) ?_
      intro L b v hC h0 hA h
      refine h.elim ?_; clear h; intro u2 h
      refine h.elim ?_; clear h; intro u3 h
      refine h.elim ?_; clear h; intro u4 h
      refine h.elim ?_; clear h; intro u5 h
      refine h.elim ?_; clear h; intro u6 h
      refine h.elim ?_; clear h; intro u7 h
      refine h.elim ?_; clear h; intro u8 h
      refine h.elim ?_; clear h; intro u9 h
      refine h.elim ?_; clear h; intro u10 h
      refine h.elim ?_; clear h; intro u11 h
      refine h.elim ?_; clear h; intro u12 h
      refine h.elim ?_; clear h; intro u13 h
      refine h.elim ?_; clear h; intro u14 h
      have hbb := h.1; replace h := h.2; subst hbb
      have hHeld := h.1; replace h := h.2
      have f0 := h.1; replace h := h.2
      have f1 := h.1; replace h := h.2
      have f2 := h.1; replace h := h.2
      have f3 := h.1; replace h := h.2
      have f4 := h.1; replace h := h.2
      have f5 := h.1; replace h := h.2
      have f6 := h.1; replace h := h.2
      have f7 := h.1; replace h := h.2
      have f8 := h.1; replace h := h.2
      have f9 := h.1; replace h := h.2
      have f10 := h.1; replace h := h.2
      have f11 := h.1; replace h := h.2
      have f12 := h; clear h
      intro K hK
      have g9 := f9 (hA 9 (by simp))
      obtain ⟨q13, rfl, H13⟩ := g9
      have g6 := f6 (hA 6 (by simp))
      rw [if_pos (by kernel_rfl)]
      have q0 := cellB hHeld C0 hg
      have q1 := cellB hHeld C1 hg
      go_simp
      refine (tab_fits _ [x.1] v (row_of_owns H13 (fun z hz => by simp at hz; exact hz ▸ h1))).mono ?_; rintro e v1 ⟨rfl, m, rfl⟩; have hb : Below v.heap.size v (v.drewN m) := Below_drewN _ _ _; rw [show [x.1].all fitB = fitB x.1 by simp]
      go_wp2_with fail
      try simp only [Act.put, List.setIfInBounds_toArray, List.set_cons_zero, List.set_cons_succ]
      refine hK.out _ _ ⟨_, _, _, _, _, _, _, _, _, _, _, _, _, rfl, ?_, ?_, ?_, ?_, ?_, ?_, ?_, ?_, ?_, ?_, ?_, ?_, ?_, ?_⟩
      · first | exact hHeld | exact hHeld.trans (hb.mono hHeld.size) | (trace_state; fail)
      · first | exact flag_ne (by decide) f0 | exact fun _ => rfl
      · first | exact flag_ne (by decide) f1 | exact fun _ => rfl
      · intro h; rw [getD_set_ne false (by decide)] at h; have := f2 h; obtain ⟨q, e1, e2⟩ := this; exact (by first | exact ⟨q, e1, e2⟩ | exact ⟨q, e1, owns_below e2 hb⟩ | (trace_state; fail))
      · intro h; rw [getD_set_ne false (by decide)] at h; have := f3 h; first | exact this | exact owns_below this hb | (trace_state; fail)
      · first | exact flag_ne (by decide) f4 | exact fun _ => rfl
      · first | exact flag_ne (by decide) f5 | exact fun _ => rfl
      · intro h; rw [getD_set_ne false (by decide)] at h; have := f6 h; first | exact this | exact owns_below this hb | (trace_state; fail)
      · first | exact flag_ne (by decide) f7 | exact fun _ => rfl
      · first | exact flag_ne (by decide) f8 | exact fun _ => rfl
      · intro h; rw [getD_set_ne false (by decide)] at h; have := f9 h; obtain ⟨q, e1, e2⟩ := this; exact (by first | exact ⟨q, e1, e2⟩ | exact ⟨q, e1, owns_below e2 hb⟩ | (trace_state; fail))
      · intro _; first | rfl | (trace_state; fail)
      · intro h; rw [getD_set_ne false (by decide)] at h; exact (getD_no h0 (hC.step (j := 11) (k := 10) h (by kernel_rfl))).elim
      · first | exact flag_ne (by decide) f12 | exact fun _ => rfl
    · refine StepAt.mk (o := { dst := some 2, op := Op.assign (Operand.tmp 10), type := 30, pos := _, after := #[{ on := 6, ground := Ground.data }, { on := 10, ground := Ground.chain }, { on := 0, ground := Ground.phase }, { on := 1, ground := Ground.phase }, { on := 2, ground := Ground.phase }, { on := 3, ground := Ground.phase }, { on := 4, ground := Ground.phase }, { on := 5, ground := Ground.phase }, { on := 6, ground := Ground.phase }, { on := 7, ground := Ground.textOnly Departure.lateStores }, { on := 8, ground := Ground.textOnly Departure.lateStores }, { on := 9, ground := Ground.textOnly Departure.lateStores }, { on := 10, ground := Ground.textOnly Departure.lateStoresUnsure }], guard := none }) (ws := [6, 10, 0, 1, 2, 3, 4, 5, 6]) rfl (by kernel_rfl) ?_
      intro L b v hC h0 hA h
      refine h.elim ?_; clear h; intro u2 h
      refine h.elim ?_; clear h; intro u3 h
      refine h.elim ?_; clear h; intro u4 h
      refine h.elim ?_; clear h; intro u5 h
      refine h.elim ?_; clear h; intro u6 h
      refine h.elim ?_; clear h; intro u7 h
      refine h.elim ?_; clear h; intro u8 h
      refine h.elim ?_; clear h; intro u9 h
      refine h.elim ?_; clear h; intro u10 h
      refine h.elim ?_; clear h; intro u11 h
      refine h.elim ?_; clear h; intro u12 h
      refine h.elim ?_; clear h; intro u13 h
      refine h.elim ?_; clear h; intro u14 h
      have hbb := h.1; replace h := h.2; subst hbb
      have hHeld := h.1; replace h := h.2
      have f0 := h.1; replace h := h.2
      have f1 := h.1; replace h := h.2
      have f2 := h.1; replace h := h.2
      have f3 := h.1; replace h := h.2
      have f4 := h.1; replace h := h.2
      have f5 := h.1; replace h := h.2
      have f6 := h.1; replace h := h.2
      have f7 := h.1; replace h := h.2
      have f8 := h.1; replace h := h.2
      have f9 := h.1; replace h := h.2
      have f10 := h.1; replace h := h.2
      have f11 := h.1; replace h := h.2
      have f12 := h; clear h
      intro K hK
      have g6 := f6 (hA 6 (by simp))
      have g10 := f10 (hA 10 (by simp))
      obtain rfl := g10
      have g0 := f0 (hA 0 (by simp))
      obtain rfl := g0
      have g1 := f1 (hA 1 (by simp))
      obtain rfl := g1
      have g2 := f2 (hA 2 (by simp))
      obtain ⟨q6, rfl, H6⟩ := g2
      have g3 := f3 (hA 3 (by simp))
      have g4 := f4 (hA 4 (by simp))
      obtain rfl := g4
      have g5 := f5 (hA 5 (by simp))
      obtain rfl := g5
      rw [if_pos (by kernel_rfl)]
      have q0 := cellB hHeld C0 hg
      have q1 := cellB hHeld C1 hg
      go_simp
      try simp only [Act.put, List.setIfInBounds_toArray, List.set_cons_zero, List.set_cons_succ]
      refine hK.out _ _ ⟨_, _, _, _, _, _, _, _, _, _, _, _, _, rfl, ?_, ?_, ?_, ?_, ?_, ?_, ?_, ?_, ?_, ?_, ?_, ?_, ?_, ?_⟩
      · first | exact hHeld | exact hHeld.trans (hb.mono hHeld.size) | (trace_state; fail)
      · first | exact flag_ne (by decide) f0 | exact fun _ => rfl
      · first | exact flag_ne (by decide) f1 | exact fun _ => rfl
      · intro h; rw [getD_set_ne false (by decide)] at h; have := f2 h; obtain ⟨q, e1, e2⟩ := this; exact (by first | exact ⟨q, e1, e2⟩ | exact ⟨q, e1, owns_below e2 hb⟩ | (trace_state; fail))
      · intro h; rw [getD_set_ne false (by decide)] at h; have := f3 h; first | exact this | exact owns_below this hb | (trace_state; fail)
      · first | exact flag_ne (by decide) f4 | exact fun _ => rfl
      · first | exact flag_ne (by decide) f5 | exact fun _ => rfl
      · intro h; rw [getD_set_ne false (by decide)] at h; have := f6 h; first | exact this | exact owns_below this hb | (trace_state; fail)
      · first | exact flag_ne (by decide) f7 | exact fun _ => rfl
      · first | exact flag_ne (by decide) f8 | exact fun _ => rfl
      · intro h; rw [getD_set_ne false (by decide)] at h; have := f9 h; obtain ⟨q, e1, e2⟩ := this; exact (by first | exact ⟨q, e1, e2⟩ | exact ⟨q, e1, owns_below e2 hb⟩ | (trace_state; fail))
      · first | exact flag_ne (by decide) f10 | exact fun _ => rfl
      · intro _; first | exact g6 | (trace_state; fail)
      · first | exact flag_ne (by decide) f12 | exact fun _ => rfl
    · refine StepAt.mk (o := { dst := some 3, op := Op.assign (Operand.tmp 14), type := 4, pos := _, after := #[{ on := 10, ground := Ground.data }, { on := 11, ground := Ground.chain }, { on := 0, ground := Ground.phase }, { on := 1, ground := Ground.phase }, { on := 2, ground := Ground.phase }, { on := 3, ground := Ground.phase }, { on := 4, ground := Ground.phase }, { on := 5, ground := Ground.phase }, { on := 6, ground := Ground.phase }, { on := 7, ground := Ground.phase }, { on := 8, ground := Ground.phase }, { on := 9, ground := Ground.phase }, { on := 10, ground := Ground.phase }, { on := 11, ground := Ground.phase }], guard := none }) (ws := [10, 11, 0, 1, 2, 3, 4, 5, 6, 7, 8, 9, 10, 11]) rfl (by kernel_rfl) ?_
      intro L b v hC h0 hA h
      refine h.elim ?_; clear h; intro u2 h
      refine h.elim ?_; clear h; intro u3 h
      refine h.elim ?_; clear h; intro u4 h
      refine h.elim ?_; clear h; intro u5 h
      refine h.elim ?_; clear h; intro u6 h
      refine h.elim ?_; clear h; intro u7 h
      refine h.elim ?_; clear h; intro u8 h
      refine h.elim ?_; clear h; intro u9 h
      refine h.elim ?_; clear h; intro u10 h
      refine h.elim ?_; clear h; intro u11 h
      refine h.elim ?_; clear h; intro u12 h
      refine h.elim ?_; clear h; intro u13 h
      refine h.elim ?_; clear h; intro u14 h
      have hbb := h.1; replace h := h.2; subst hbb
      have hHeld := h.1; replace h := h.2
      have f0 := h.1; replace h := h.2
      have f1 := h.1; replace h := h.2
      have f2 := h.1; replace h := h.2
      have f3 := h.1; replace h := h.2
      have f4 := h.1; replace h := h.2
      have f5 := h.1; replace h := h.2
      have f6 := h.1; replace h := h.2
      have f7 := h.1; replace h := h.2
      have f8 := h.1; replace h := h.2
      have f9 := h.1; replace h := h.2
      have f10 := h.1; replace h := h.2
      have f11 := h.1; replace h := h.2
      have f12 := h; clear h
      intro K hK
      have g10 := f10 (hA 10 (by simp))
      obtain rfl := g10
      have g11 := f11 (hA 11 (by simp))
      have g0 := f0 (hA 0 (by simp))
      obtain rfl := g0
      have g1 := f1 (hA 1 (by simp))
      obtain rfl := g1
      have g2 := f2 (hA 2 (by simp))
      obtain ⟨q6, rfl, H6⟩ := g2
      have g3 := f3 (hA 3 (by simp))
      have g4 := f4 (hA 4 (by simp))
      obtain rfl := g4
      have g5 := f5 (hA 5 (by simp))
      obtain rfl := g5
      have g6 := f6 (hA 6 (by simp))
      have g7 := f7 (hA 7 (by simp))
      obtain rfl := g7
      have g8 := f8 (hA 8 (by simp))
      obtain rfl := g8
      have g9 := f9 (hA 9 (by simp))
      obtain ⟨q13, rfl, H13⟩ := g9
      rw [if_pos (by kernel_rfl)]
      have q0 := cellB hHeld C0 hg
      have q1 := cellB hHeld C1 hg
      go_simp
      try simp only [Act.put, List.setIfInBounds_toArray, List.set_cons_zero, List.set_cons_succ]
      refine hK.out _ _ ⟨_, _, _, _, _, _, _, _, _, _, _, _, _, rfl, ?_, ?_, ?_, ?_, ?_, ?_, ?_, ?_, ?_, ?_, ?_, ?_, ?_, ?_⟩
      · first | exact hHeld | exact hHeld.trans (hb.mono hHeld.size) | (trace_state; fail)
      · first | exact flag_ne (by decide) f0 | exact fun _ => rfl
      · first | exact flag_ne (by decide) f1 | exact fun _ => rfl
      · intro h; rw [getD_set_ne false (by decide)] at h; have := f2 h; obtain ⟨q, e1, e2⟩ := this; exact (by first | exact ⟨q, e1, e2⟩ | exact ⟨q, e1, owns_below e2 hb⟩ | (trace_state; fail))
      · intro h; rw [getD_set_ne false (by decide)] at h; have := f3 h; first | exact this | exact owns_below this hb | (trace_state; fail)
      · first | exact flag_ne (by decide) f4 | exact fun _ => rfl
      · first | exact flag_ne (by decide) f5 | exact fun _ => rfl
      · intro h; rw [getD_set_ne false (by decide)] at h; have := f6 h; first | exact this | exact owns_below this hb | (trace_state; fail)
      · first | exact flag_ne (by decide) f7 | exact fun _ => rfl
      · first | exact flag_ne (by decide) f8 | exact fun _ => rfl
      · intro h; rw [getD_set_ne false (by decide)] at h; have := f9 h; obtain ⟨q, e1, e2⟩ := this; exact (by first | exact ⟨q, e1, e2⟩ | exact ⟨q, e1, owns_below e2 hb⟩ | (trace_state; fail))
      · first | exact flag_ne (by decide) f10 | exact fun _ => rfl
      · intro h; rw [getD_set_ne false (by decide)] at h; have := f11 h; first | exact this | exact owns_below this hb | (trace_state; fail)
      · intro _; first | rfl | (trace_state; fail)
  intro L b v hA h
  refine h.elim ?_; clear h; intro u2 h
  refine h.elim ?_; clear h; intro u3 h
  refine h.elim ?_; clear h; intro u4 h
  refine h.elim ?_; clear h; intro u5 h
  refine h.elim ?_; clear h; intro u6 h
  refine h.elim ?_; clear h; intro u7 h
  refine h.elim ?_; clear h; intro u8 h
  refine h.elim ?_; clear h; intro u9 h
  refine h.elim ?_; clear h; intro u10 h
  refine h.elim ?_; clear h; intro u11 h
  refine h.elim ?_; clear h; intro u12 h
  refine h.elim ?_; clear h; intro u13 h
  refine h.elim ?_; clear h; intro u14 h
  have hbb := h.1; replace h := h.2; subst hbb
  have hHeld := h.1; replace h := h.2
  have f0 := h.1; replace h := h.2
  have f1 := h.1; replace h := h.2
  have f2 := h.1; replace h := h.2
  have f3 := h.1; replace h := h.2
  have f4 := h.1; replace h := h.2
  have f5 := h.1; replace h := h.2
  have f6 := h.1; replace h := h.2
  have f7 := h.1; replace h := h.2
  have f8 := h.1; replace h := h.2
  have f9 := h.1; replace h := h.2
  have f10 := h.1; replace h := h.2
  have f11 := h.1; replace h := h.2
  have f12 := h; clear h
  have g0 := f0 (hA 0 (by omega))
  clear f0
  obtain rfl := g0
  have g1 := f1 (hA 1 (by omega))
  clear f1
  obtain rfl := g1
  have g2 := f2 (hA 2 (by omega))
  clear f2
  obtain ⟨q6, rfl, H6⟩ := g2
  have g3 := f3 (hA 3 (by omega))
  clear f3
  have g4 := f4 (hA 4 (by omega))
  clear f4
  obtain rfl := g4
  have g5 := f5 (hA 5 (by omega))
  clear f5
  obtain rfl := g5
  have g6 := f6 (hA 6 (by omega))
  clear f6
  have g7 := f7 (hA 7 (by omega))
  clear f7
  obtain rfl := g7
  have g8 := f8 (hA 8 (by omega))
  clear f8
  obtain rfl := g8
  have g9 := f9 (hA 9 (by omega))
  clear f9
  obtain ⟨q13, rfl, H13⟩ := g9
  have g10 := f10 (hA 10 (by omega))
  clear f10
  obtain rfl := g10
  have g11 := f11 (hA 11 (by omega))
  clear f11
  have g12 := f12 (hA 12 (by omega))
  clear f12
  obtain rfl := g12
  clear hA
  exact ⟨rfl, _, _, _, _, _, _, _, _, _, _, _, _, _, rfl, hHeld, g11, rfl⟩
theorem tab_PutConst (x : Int × Int) (w : World) (h1 : I64 x.1) :
    Calls Tryd.prog 46 #[.agg #[.int .i64 x.1, .int .i64 x.2]] w fun e w' => ∃ r, e = .returned (.tuple #[r, .bool (cstOk x)]) ∧ w'.ownsRow (w.heap.size + 1) 5 1 r 9 (bytesV (cstL x)) ∧ Below w.heap.size w w' := by
  go_enter Tryd.func46, Tryd.ntmps46
  go_wp2
  obtain ⟨W0, hW0⟩ : ∃ W0, W0 = w.alloc (.cells #[.int .i64 x.1, .int .i64 x.2] 61) := ⟨_, rfl⟩
  have bx := Boxed.new w [.int .i64 x.1, .int .i64 x.2] 61 (Below.refl _ _)
  have C0 := bx 0 _ rfl
  have C1 := bx 1 _ rfl
  clear bx
  rw [← hW0] at C0 C1
  have hz0 : w.heap.size < W0.heap.size := by rw [hW0]; simp
  have hz1 : W0.heap.size = w.heap.size + 1 := by rw [hW0]; simp
  rw [← hW0]
  refine Code.wp_mono ?_ (putConst_r1 W0 w.heap.size x h1 C0 C1 hz0 _ _ _ _ _ _ _ _ _ _ _)
  rintro e b v ⟨rfl, u2, u3, u4, u5, u6, u7, u8, u9, u10, u11, u12, u13, u14, rfl, hHeld, g11, rfl⟩
  go_wp2_with fail
  go_returns
  exact ⟨_, rfl, by rw [← hz1]; exact g11, Below.trans (by rw [hW0]; exact (Below.refl _ _).alloc (Nat.le_refl _) _) (hHeld.mono (by omega))⟩
end Go.Proofs.YtjikkipdmonndaaDoor

/- Layer 14: a table of constants as bytes. -/
namespace Go.Proofs.YtjikkipdmonndaaDoor
open Go.RowKit
set_option linter.unusedSimpArgs false
set_option linter.unusedVariables false
set_option maxRecDepth 100000 in
set_option maxHeartbeats 4000000 in
theorem tab_put_consts (v : Value) (L : List (Int × Int)) (w : World) (hv : RowR 2 constR w v L) (hlen : L.length ≤ 1024) :
    Calls Tryd.prog 45 #[v, .int .i64 1024, .func (.func 46) #[] #[]] w fun e w' => ∃ r, e = .returned (.tuple #[r, .bool (L.all cstOk)]) ∧ (L.all cstOk = true → w'.ownsRow w.heap.size 5 1 r (2 + (cstsL L).length) (bytesV (putL 2 L.length ++ cstsL L))) ∧ (L.all cstOk = false → r = .slice none 0 0) ∧ Below w.heap.size w w' := by
  obtain ⟨i, hi, hz, hsize, hby⟩ : ∃ i, Tryd.prog.info? 5 = some i ∧ i.zero = some (.int .u8 0) ∧ i.size = 1 ∧ i.bytes = 1 := ⟨(Tryd.prog.info? 5).get!, by kernel_rfl, by kernel_rfl, by kernel_rfl, by kernel_rfl⟩
  obtain ⟨sa, ca, rfl⟩ := row_get hv
  have HY := Lib.hid (show L.take L.length = L from List.take_length)
  have cp := @cell_past
  obtain ⟨n, hN⟩ : ∃ n, L.length = n := ⟨_, rfl⟩
  rw [hN] at hv hlen HY ⊢
  have q0 : (1024 < (n : Int)) = False := eq_false (by omega)
  go_enter Tryd.func45, Tryd.ntmps45
  go_wp2_with fail
  refine (octet_Put (.slice none 0 0) [] 2 (n : Int) _ (Or.inl ⟨none, 0, rfl, rfl, fun _ => rfl⟩) (by simp)).mono ?_; rintro e w1 ⟨r1, rfl, hO1, hb1⟩
  have hO1 : w1.ownsRow w.heap.size 5 1 r1 2 (bytesV (putL 2 n)) := hO1
  go_wp2_with fail
  go_loopw [8, 22] (fun o j wr => ∃ k : Nat, k ≤ n ∧ j = .int .i64 k ∧ Hid ((L.take k).all cstOk = true) ∧ Hid (wr.ownsRow w.heap.size 5 1 o (2 + (cstsL (L.take k)).length) (bytesV (putL 2 n ++ cstsL (L.take k)))) ∧ Below w.heap.size w wr) (fun _ j _ => n - (intOf j).toNat)
  case atStart => exact ⟨0, by omega, rfl, Lib.hid (by simp), Lib.hid (by simpa [cstsL] using hO1), hb1⟩
  case round =>
    obtain ⟨k, hk, rfl, hall, hO, hB⟩ := hrel
    have hz' := hB.size
    by_cases hlt : k < n
    · obtain ⟨x, hx⟩ : ∃ x, L[k]? = some x := get_some (by omega)
      obtain ⟨b, off, rfl, hbw, hc⟩ := const_at hv (k := k) (by omega)
      obtain ⟨c0, c1, c2, c3⟩ := hc k x hx
      have c0 := (hB.cell (p := ⟨b, off + k * 2, none⟩) hbw).trans c0
      have c1 := (hB.cell (p := ⟨b, off + k * 2 + 1, none⟩) hbw).trans c1
      clear hc
      have hts := Lib.hid (take_snoc hx)
      have hmem := Lib.hid (List.mem_of_getElem? hx)
      have hno := Lib.hid (fun h : cstOk x = false => (show L.all cstOk = false from List.all_eq_false.2 ⟨x, hmem.out, by simp [h]⟩))
      have hbl : (cstsL (L.take k)).length ≤ 1000000 := by have := cstsL_len (L.take k); rw [List.length_take] at this; omega
      have HE := Lib.hid (tab_PutConst x (wr.alloc (.cells #[.int .i64 x.1, .int .i64 x.2] 61)) c2)
      have hz2 : (wr.alloc (.cells #[.int .i64 x.1, .int .i64 x.2] 61)).heap.size = wr.heap.size + 1 := by simp
      clear hx hmem
      cases hr : cstOk x
      · have hA := Lib.hid (hno.out hr)
        rw [hr] at HE
        clear hno hr
        go_wp2_with fail
        refine HE.out.mono ?_; rintro e w2 ⟨r2, rfl, hr2, hb2⟩
        have hB2 : Below w.heap.size w w2 := (hB.alloc hz' _).trans (hb2.mono (by rw [hz2]; omega))
        clear hr2
        go_wp2_with fail
        go_returns
        exact ⟨_, by rw [hA.out]; rfl, fun h => (by rw [hA.out] at h; cases h), fun _ => rfl, hB2⟩
      · rw [hr] at HE
        go_wp2_with fail
        refine HE.out.mono ?_; rintro e w2 ⟨r2, rfl, hr2, hb2⟩
        have hO2 := Lib.hid hr2
        have hB2 : Below w.heap.size w w2 := (hB.alloc hz' _).trans (hb2.mono (by rw [hz2]; omega))
        have hbn : Below wr.heap.size wr w2 := ((Below.refl _ _).alloc (Nat.le_refl _) _).trans (hb2.mono (by rw [hz2]; omega))
        have hO3 := Lib.hid (owns_below hO.out hbn)
        have hz3 := hB2.size
        have hl257 := cstL_len x
        go_wp2_with (first | (at_builtin; go_loud (refine wpList_append_src rfl (.tmp 34) (.tmp 35) 30 rfl w.heap.size 5 i (.int .u8 0) 1 1 Tryd.underlying30 hi hz hsize hby rfl (by omega) _ (2 + (cstsL (L.take k)).length) _ rfl hO3.out _ 9 _ rfl (src_own hO2.out) (by rw [bytesV_len, cstL_len]) (bytesV_one _) (by unfold maxLen; omega) (by omega) hz3 ?_; intro v3 w3 hO4 hG3; have hB3 := Lib.hid (grown3 hB2 hz3 hO3.out hG3); have HO4 := Lib.hid hO4; clear hO4 hG3)) | fail)
        go_roundw
        case rel => exact ⟨k + 1, by omega, by simp, Lib.hid (by rw [hts.out, List.all_append, hall.out]; simp [hr]), Lib.hid (own_eq2 HO4.out (by rw [hts.out, cstsL_snoc, List.length_append, cstL_len]; omega) (by rw [hts.out, cstsL_snoc]; simp [bytesV])), hB3.out⟩
        case measure => first | (simp [intOf]; done) | (simp [intOf]; omega)
    · obtain rfl : k = n := by omega
      have hA := Lib.hid (show L.all cstOk = true by have := hall.out; rwa [HY.out] at this)
      go_wp2_with fail
      go_returns
      exact ⟨_, by rw [hA.out]; rfl, fun _ => (by have := hO.out; rwa [HY.out] at this), fun h => (by rw [hA.out] at h; cases h), hB⟩
theorem tab_putC_long (v : Value) (L : List (Int × Int)) (w : World) (hv : RowR 2 constR w v L) (hlen : 1024 < L.length) :
    Calls Tryd.prog 45 #[v, .int .i64 1024, .func (.func 46) #[] #[]] w fun e w' => e = .returned (.tuple #[.slice none 0 0, .bool false]) ∧ Below w.heap.size w w' := by
  have hl := hv.len
  obtain ⟨sa, ca, rfl⟩ := row_get hv
  obtain ⟨n, hN⟩ : ∃ n, L.length = n := ⟨_, rfl⟩
  rw [hN] at hv hlen hl ⊢
  have q0 : (1024 < (n : Int)) = True := eq_true (by omega)
  go_enter Tryd.func45, Tryd.ntmps45
  go_wp2_with fail
  go_returns
  exact ⟨rfl, by (repeat' (first | (with_reducible exact Below.refl _ _) | (with_reducible assumption) | (with_reducible refine below_drewN ?_ _) | (with_reducible refine Below.alloc ?_ ?_ _) | (with_reducible refine Below.drew ?_) | (with_reducible refine Below.setCell ?_ ?_ _) | go_size))⟩
/-- what PutBlocks tells -/
def PutsC (w : World) (L : List (Int × Int)) (e : Ending) (w' : World) : Prop :=
  ∃ r, e = .returned (.tuple #[r, .bool (okCs L)]) ∧ (okCs L = true → w'.ownsRow w.heap.size 5 1 r (2 + (cstsL L).length) (bytesV (putL 2 L.length ++ cstsL L))) ∧ (okCs L = false → r = .slice none 0 0) ∧ Below w.heap.size w w'
theorem tab_putC_any (v : Value) (L : List (Int × Int)) (w : World) (hv : RowR 2 constR w v L) :
    Calls Tryd.prog 45 #[v, .int .i64 1024, .func (.func 46) #[] #[]] w (PutsC w L) := by
  by_cases h : L.length ≤ 1024
  · have ho : okCs L = L.all cstOk := by unfold okCs; rw [decide_eq_true h]; rfl
    refine (tab_put_consts v L w hv h).mono ?_
    rintro e w' ⟨r, rfl, h1, h2, h3⟩
    exact ⟨r, by rw [ho], by rw [ho]; exact h1, by rw [ho]; exact h2, h3⟩
  · have ho : okCs L = false := by unfold okCs; rw [decide_eq_false h]; rfl
    refine (tab_putC_long v L w hv (by omega)).mono ?_
    rintro e w' ⟨rfl, h3⟩
    exact ⟨_, by rw [ho], fun h => (by rw [ho] at h; cases h), fun _ => rfl, h3⟩
theorem tab_PutConsts (v : Value) (L : List (Int × Int)) (w : World) (hv : RowR 2 constR w v L) :
    Calls Tryd.prog 17 #[v] w (PutsC w L) := by
  have HP := Lib.hid (tab_putC_any v L w hv)
  obtain ⟨sa, ca, rfl⟩ := row_get hv
  clear hv
  go_enter Tryd.func17, Tryd.ntmps17
  go_wp2_with fail
  refine HP.out.mono ?_; rintro e w1 ⟨r, rfl, h1, h2, h3⟩
  have H1 := Lib.hid h1
  have H2 := Lib.hid h2
  clear h1 h2 HP
  go_wp2_with fail
  go_returns
  exact ⟨r, rfl, H1.out, H2.out, h3⟩
end Go.Proofs.YtjikkipdmonndaaDoor

/- Layer 14: variables that are read of any bytes, and their bytes. -/
namespace Go.Proofs.YtjikkipdmonndaaDoor
open Go.RowKit
set_option linter.unusedSimpArgs false
set_option linter.unusedVariables false
def varOk (x : Vr) : Bool := decide (x.name.length ≤ 255) && (fitB x.t && (fitB x.n && fitB x.area))
def varL (x : Vr) : List UInt8 := (UInt8.ofNat x.name.length :: x.name) ++ ([byteO x.t, byteO x.n, byteO x.area] ++ putL 8 x.init)
def varsL (L : List Vr) : List UInt8 := L.flatMap varL
theorem varsL_snoc (L : List Vr) (x : Vr) : varsL (L ++ [x]) = varsL L ++ varL x := by simp [varsL]
theorem varL_len (x : Vr) : (varL x).length = x.name.length + 12 := by unfold varL; simp [putL_len]
theorem varsL_len : ∀ L : List Vr, L.all varOk = true → (varsL L).length ≤ 267 * L.length
  | [], _ => by simp [varsL]
  | x :: t, h => by
    have h' := h
    rw [List.all_cons, Bool.and_eq_true] at h'
    have h1 := varL_len x
    have h3 : x.name.length ≤ 255 := by have := h'.1; unfold varOk at this; simp at this; exact this.1
    have h2 := varsL_len t h'.2
    have e : varsL (x :: t) = varL x ++ varsL t := by simp [varsL]
    rw [e, List.length_append, List.length_cons]; omega
def okVs (L : List Vr) : Bool := decide (L.length ≤ 64) && L.all varOk
/-- four states: behind the name, and behind each number -/
def rV1 (L : List UInt8) (n : Nat) (b : Bool) : List UInt8 × Nat × Bool := rText L n b
def rV2 (L : List UInt8) (n : Nat) (b : Bool) : Int × Nat × Bool := rNum L 1 (rV1 L n b).2.1 (rV1 L n b).2.2
def rV3 (L : List UInt8) (n : Nat) (b : Bool) : Int × Nat × Bool := rNum L 1 (rV2 L n b).2.1 (rV2 L n b).2.2
def rV4 (L : List UInt8) (n : Nat) (b : Bool) : Int × Nat × Bool := rNum L 1 (rV3 L n b).2.1 (rV3 L n b).2.2
def rV5 (L : List UInt8) (n : Nat) (b : Bool) : Int × Nat × Bool := rNum L 8 (rV4 L n b).2.1 (rV4 L n b).2.2
def rVar (L : List UInt8) (n : Nat) (b : Bool) : Vr × Nat × Bool := (⟨(rV1 L n b).1, (rV2 L n b).1, (rV3 L n b).1, (rV4 L n b).1, (rV5 L n b).1⟩, (rV5 L n b).2)
def goodV (x : Vr) : Prop := x.name.length ≤ 1000000 ∧ I64 x.t ∧ I64 x.n ∧ I64 x.area ∧ I64 x.init
/-- a number of one byte, and what stands behind it -/
theorem one_back {L T : List UInt8} {n : Nat} {z : Int} (hf : fitB z = true) (h : L.drop n = byteO z :: T) (hn : n ≤ L.length) : rNum L 1 n false = (z, n + 1, false) ∧ L.drop (n + 1) = T ∧ n + 1 ≤ L.length := by
  have h1 : L.drop n = [byteO z] ++ T := h
  have h2 := rNum_back h1 hn
  obtain ⟨d1, d2⟩ := drop_enc h1 hn
  rw [show [byteO z].length = 1 from rfl] at h2 d1 d2
  rw [byteO_fit hf] at h2
  exact ⟨h2, d1, d2⟩
theorem one_forth {L : List UInt8} {n : Nat} (hb : (rNum L 1 n false).2.2 = false) : fitB (rNum L 1 n false).1 = true ∧ (rNum L 1 n false).2.1 = n + 1 ∧ n + 1 ≤ L.length ∧ L.drop n = byteO (rNum L 1 n false).1 :: L.drop (n + 1) := by
  obtain ⟨h1, h2, h3, h4⟩ := rNum_forth hb
  obtain ⟨c, hc⟩ : ∃ c, (L.drop n).take 1 = [c] := ⟨_, take_one h1⟩
  rw [hc] at h2 h3
  obtain ⟨f1, f2⟩ := fit_byteO c
  rw [h2]
  exact ⟨f1, rfl, h1, by dsimp only; rw [f2]; exact h3⟩
theorem num_bad {L : List UInt8} {N n : Nat} {b : Bool} (h : (rNum L N n b).2.2 = false) : b = false := by
  cases b
  · rfl
  · rw [rNum_bad] at h; cases h
theorem readsV : Reads rVar varL varOk goodV where
  bad L n hn := by
    show (rV5 L n true).2.2 = true
    have e1 : (rV1 L n true).2.2 = true := by unfold rV1; rw [rText_bad]
    have e2 : (rV2 L n true).2.2 = true := by unfold rV2; rw [e1, rNum_bad]
    have e3 : (rV3 L n true).2.2 = true := by unfold rV3; rw [e2, rNum_bad]
    have e4 : (rV4 L n true).2.2 = true := by unfold rV4; rw [e3, rNum_bad]
    unfold rV5; rw [e4, rNum_bad]
  at' L n b hn := by
    obtain ⟨h1, h2⟩ := rText_at L n b hn
    obtain ⟨k1, k2⟩ := rNum_at L 1 (rV1 L n b).2.1 (rV1 L n b).2.2 h2
    obtain ⟨l1, l2⟩ := rNum_at L 1 (rV2 L n b).2.1 (rV2 L n b).2.2 k2
    obtain ⟨m1, m2⟩ := rNum_at L 1 (rV3 L n b).2.1 (rV3 L n b).2.2 l2
    obtain ⟨o1, o2⟩ := rNum_at L 8 (rV4 L n b).2.1 (rV4 L n b).2.2 m2
    exact ⟨Nat.le_trans h1 (Nat.le_trans k1 (Nat.le_trans l1 (Nat.le_trans m1 o1))), o2⟩
  fine L n b hn hL := ⟨by have := rText_len L n b; show (rText L n b).1.length ≤ _; omega, numV_in _, numV_in _, numV_in _, numV_in _⟩
  back L n x T hok hx h hn := by
    unfold varOk at hok
    rw [Bool.and_eq_true, Bool.and_eq_true, Bool.and_eq_true] at hok
    have hs : x.name.length ≤ 255 := of_decide_eq_true hok.1
    have hlen := varL_len x
    unfold varL at h
    rw [List.append_assoc] at h
    have h1 := rText_back h hn hs
    obtain ⟨d1, d2⟩ := drop_enc h hn
    have e1 : (UInt8.ofNat x.name.length :: x.name).length = 1 + x.name.length := by simp; omega
    rw [e1] at d1 d2
    obtain ⟨n1, hn1⟩ : ∃ n1, n + (1 + x.name.length) = n1 := ⟨_, rfl⟩
    rw [hn1] at h1 d1 d2
    obtain ⟨a1, a2, a3⟩ := one_back (T := byteO x.n :: byteO x.area :: (putL 8 x.init ++ T)) hok.2.1 (by rw [d1]; simp) d2
    obtain ⟨b1, b2, b3⟩ := one_back hok.2.2.1 a2 a3
    obtain ⟨c1, c2, c3⟩ := one_back hok.2.2.2 b2 b3
    have f1 := rNum_back c2 c3
    rw [putL_len, numV_put8' hx.2.2.2.2] at f1
    have g1 : rV1 L n false = (x.name, n1, false) := h1
    have g2 : rV2 L n false = (x.t, n1 + 1, false) := by unfold rV2; rw [g1]; exact a1
    have g3 : rV3 L n false = (x.n, n1 + 1 + 1, false) := by unfold rV3; rw [g2]; exact b1
    have g4 : rV4 L n false = (x.area, n1 + 1 + 1 + 1, false) := by unfold rV4; rw [g3]; exact c1
    have g5 : rV5 L n false = (x.init, n1 + 1 + 1 + 1 + 8, false) := by unfold rV5; rw [g4]; exact f1
    unfold rVar
    rw [g1, g2, g3, g4, g5, hlen]
    rw [show n1 + 1 + 1 + 1 + 8 = n + (x.name.length + 12) by omega]
  forth L n hn hb := by
    have hb5 : (rV5 L n false).2.2 = false := hb
    have hb4 : (rV4 L n false).2.2 = false := num_bad hb5
    have hb3 : (rV3 L n false).2.2 = false := num_bad hb4
    have hb2 : (rV2 L n false).2.2 = false := num_bad hb3
    have hb1 : (rV1 L n false).2.2 = false := num_bad hb2
    obtain ⟨h1, h2, h3⟩ := rText_forth hb1
    have hb2' := hb2
    unfold rV2 at hb2'
    rw [hb1] at hb2'
    obtain ⟨a1, a2, a3, a4⟩ := one_forth hb2'
    have g2 : rV2 L n false = rNum L 1 (rV1 L n false).2.1 false := by unfold rV2; rw [hb1]
    rw [← g2] at a1 a2 a4
    have hb3' := hb3
    unfold rV3 at hb3'
    rw [hb2] at hb3'
    obtain ⟨b1, b2, b3, b4⟩ := one_forth hb3'
    have g3 : rV3 L n false = rNum L 1 (rV2 L n false).2.1 false := by unfold rV3; rw [hb2]
    rw [← g3] at b1 b2 b4
    have hb4' := hb4
    unfold rV4 at hb4'
    rw [hb3] at hb4'
    obtain ⟨c1, c2, c3, c4⟩ := one_forth hb4'
    have g4 : rV4 L n false = rNum L 1 (rV3 L n false).2.1 false := by unfold rV4; rw [hb3]
    rw [← g4] at c1 c2 c4
    have hb5' := hb5
    unfold rV5 at hb5'
    rw [hb4] at hb5'
    obtain ⟨d1, d2, d3, d4⟩ := rNum_forth hb5'
    have g5 : rV5 L n false = rNum L 8 (rV4 L n false).2.1 false := by unfold rV5; rw [hb4]
    rw [← g5] at d2
    have hl1 : (rV1 L n false).1.length ≤ 255 := h1
    have e5 : (rVar L n false).2.1 = (rV4 L n false).2.1 + 8 := by show (rV5 L n false).2.1 = _; rw [d2]
    have ei : (rVar L n false).1.init = numV ((L.drop (rV4 L n false).2.1).take 8) := by show (rV5 L n false).1 = _; rw [d2]
    refine ⟨?_, ?_, ?_⟩
    · unfold varOk
      rw [Bool.and_eq_true, Bool.and_eq_true, Bool.and_eq_true]
      exact ⟨decide_eq_true hl1, a1, b1, c1⟩
    · unfold varL
      rw [ei, putL8_num d4, e5]
      show L.drop n = (UInt8.ofNat (rV1 L n false).1.length :: (rV1 L n false).1) ++ ([byteO (rV2 L n false).1, byteO (rV3 L n false).1, byteO (rV4 L n false).1] ++ (L.drop (rV4 L n false).2.1).take 8) ++ L.drop ((rV4 L n false).2.1 + 8)
      have k1 : L.drop (rV1 L n false).2.1 = byteO (rV2 L n false).1 :: (byteO (rV3 L n false).1 :: (byteO (rV4 L n false).1 :: ((L.drop (rV4 L n false).2.1).take 8 ++ L.drop ((rV4 L n false).2.1 + 8)))) := by
        rw [a4, ← a2, b4, ← b2, c4, ← c2, ← d3]
      have k0 : L.drop n = (UInt8.ofNat (rV1 L n false).1.length :: (rV1 L n false).1) ++ L.drop (rV1 L n false).2.1 := h2
      rw [k0, k1]
      simp
    · rw [e5, varL_len]
      show _ = n + ((rV1 L n false).1.length + 12)
      have h3' : (rV1 L n false).2.1 = n + (1 + (rV1 L n false).1.length) := h3
      omega
end Go.Proofs.YtjikkipdmonndaaDoor
