/- Layer 14: a block's row as bytes: a name that is too long. -/
import Derived.Test.YtdpcfcflcfjmjaaTabB
namespace Go.Proofs.Ytdpcfcflcfjmjaa
open Go.RowKit
set_option linter.unusedSimpArgs false
set_option linter.unusedVariables false
set_option maxHeartbeats 4000000 in
theorem tab_PutBlock_long (s : ByteArray) (k : Int) (w : World) (hs : s.size ≤ 1000000) (hk : I64 k) (h2 : 255 < s.size) :
    Calls Try.prog 44 #[.agg #[.string s, .int .i64 k]] w fun e w' => ∃ r, e = .returned (.tuple #[r, .bool false]) ∧ Below w.heap.size w w' := by
  obtain ⟨i, hi, hz, hsize, hby⟩ : ∃ i, Try.prog.info? 5 = some i ∧ i.zero = some (.int .u8 0) ∧ i.size = 1 ∧ i.bytes = 1 := ⟨(Try.prog.info? 5).get!, by kernel_rfl, by kernel_rfl, by kernel_rfl, by kernel_rfl⟩
  have hq : ((s.size : Int) ≤ 255) = False := eq_false (by omega)
  go_enter Try.func44, Try.ntmps44
  go_wp2_with fail
  obtain ⟨W0, hW0⟩ : ∃ W0, W0 = w.alloc (.cells #[.string s, .int .i64 k] 42) := ⟨_, rfl⟩
  have bx := Boxed.new w [.string s, .int .i64 k] 42 (Below.refl _ _)
  have C0 := bx 0 _ rfl
  have C1 := bx 1 _ rfl
  clear bx
  rw [← hW0] at C0 C1
  have hz0 : w.heap.size < W0.heap.size := by rw [hW0]; simp
  rw [← hW0]
  obtain ⟨T, hT⟩ : ∃ T, T = [UInt8.ofNat (cut255 s).size] ++ (cut255 s).data.toList := ⟨_, rfl⟩
  obtain ⟨N, hN⟩ : ∃ N, N = 1 + (cut255 s).size := ⟨_, rfl⟩
  have hN1 : N ≤ 256 := by rw [hN]; unfold cut255; rw [if_pos (by omega)]; simp; omega
  have HTX := Lib.hid (fun W : World => (octet_Text (.slice none 0 0) [] s W (Or.inl ⟨none, 0, rfl, rfl, fun _ => rfl⟩) (by simp)).mono (R' := fun e w' => ∃ r, e = .returned r ∧ w'.ownsRow W.heap.size 5 1 r N (bytesV T) ∧ Below W.heap.size W w') (by rintro e w' ⟨r, h1, h2, h3⟩; exact ⟨r, h1, by rw [hT, hN]; simpa using h2, h3⟩))
  clear hT hN
  refine wp_region_facts (n := 20) (fun L b v => ∃ u2 u3 u4 u5 u6 u7 u8 u9 u10 u11 u12 u13 u14 u15 u16 u17 u18 u19 u20 u21 : Value, b = ⟨#[.agg #[.string s, .int .i64 k], .pointer (some ⟨w.heap.size, 0, none⟩), u2, u3, u4, u5, u6, u7, u8, u9, u10, u11, u12, u13, u14, u15, u16, u17, u18, u19, u20, u21], []⟩ ∧ Below W0.heap.size W0 v ∧ (L.getD 0 false = true → u4 = .pointer (some ⟨w.heap.size, 0, none⟩)) ∧ (L.getD 1 false = true → u5 = .string s) ∧ (L.getD 2 false = true → L.getD 7 true = false → v.ownsRow W0.heap.size 5 1 u6 N (bytesV T)) ∧ (L.getD 3 false = true → u7 = .pointer (some ⟨w.heap.size, 1, none⟩)) ∧ (L.getD 4 false = true → u8 = .int .i64 k) ∧ (L.getD 5 false = true → ∃ q, u9 = .slice (some ⟨q, 0, none⟩) 1 1 ∧ v.ownsRow W0.heap.size 3 1 (.slice (some ⟨q, 0, none⟩) 1 1) 1 [.int .i64 k]) ∧ (L.getD 6 false = true → L.getD 7 true = false → v.ownsRow W0.heap.size 5 1 u10 1 (bytesV [byteO k])) ∧ (L.getD 7 false = true → v.ownsRow W0.heap.size 5 1 u11 (N + 1) (bytesV T ++ bytesV [byteO k])) ∧ (L.getD 8 false = true → u12 = .pointer (some ⟨w.heap.size, 0, none⟩)) ∧ (L.getD 9 false = true → u13 = .string s) ∧ (L.getD 10 false = true → u14 = .int .i64 s.size) ∧ (L.getD 11 false = true → u15 = .bool false) ∧ (L.getD 12 false = true → u16 = .bool false) ∧ (L.getD 17 false = true → u21 = .bool false) ∧ (L.getD 18 false = true → v.ownsRow W0.heap.size 5 1 u2 (N + 1) (bytesV T ++ bytesV [byteO k])) ∧ (L.getD 19 false = true → u3 = .bool false)) (by kernel_rfl) (by kernel_rfl) (by kernel_rfl) ?_ ?_ ?_
  · refine ⟨_, _, _, _, _, _, _, _, _, _, _, _, _, _, _, _, _, _, _, _, rfl, (Below.refl _ _).drew, flag_new, flag_new, flag_new, flag_new, flag_new, flag_new, flag_new, flag_new, flag_new, flag_new, flag_new, flag_new, flag_new, flag_new, flag_new, flag_new⟩
  · refine AllSteps.succ (AllSteps.succ (AllSteps.succ (AllSteps.succ (AllSteps.succ (AllSteps.succ (AllSteps.succ (AllSteps.succ (AllSteps.succ (AllSteps.succ (AllSteps.succ (AllSteps.succ (AllSteps.succ (AllSteps.succ (AllSteps.succ (AllSteps.succ (AllSteps.succ (AllSteps.succ (AllSteps.succ (AllSteps.succ AllSteps.zero ?_) ?_) ?_) ?_) ?_) ?_) ?_) ?_) ?_) ?_) ?_) ?_) ?_) ?_) ?_) ?_) ?_) ?_) ?_) ?_
    · refine StepAt.mk (o := { dst := some 4, op := Op.fieldAddr 42 (Operand.tmp 1) 0, type := 0, pos := _, after := #[], guard := none }) (ws := []) rfl (by kernel_rfl) ?_
      rintro L b v hC h0 hA ⟨u2, u3, u4, u5, u6, u7, u8, u9, u10, u11, u12, u13, u14, u15, u16, u17, u18, u19, u20, u21, rfl, hHeld, f0, f1, f2, f3, f4, f5, f6, f7, f8, f9, f10, f11, f12, f17, f18, f19⟩ K hK
      rw [if_pos (by kernel_rfl)]
      have q0 := cellB hHeld C0 hz0
      have q1 := cellB hHeld C1 hz0
      go_simp
      try simp only [Act.put, List.setIfInBounds_toArray, List.set_cons_zero, List.set_cons_succ]
      refine hK.out _ _ ⟨_, _, _, _, _, _, _, _, _, _, _, _, _, _, _, _, _, _, _, _, rfl, ?_, ?_, ?_, ?_, ?_, ?_, ?_, ?_, ?_, ?_, ?_, ?_, ?_, ?_, ?_, ?_, ?_⟩
      · first | exact hHeld | exact hHeld.trans (hb.mono hHeld.size) | (trace_state; fail)
      · intro _; first | rfl | (trace_state; fail)
      · first | exact flag_ne (by decide) f1 | exact fun _ => rfl
      · intro h _; rw [getD_set_ne false (by decide)] at h; exact (getD_no h0 (hC.step (j := 1) (k := 0) (hC.step (j := 2) (k := 1) h (by kernel_rfl)) (by kernel_rfl))).elim
      · first | exact flag_ne (by decide) f3 | exact fun _ => rfl
      · first | exact flag_ne (by decide) f4 | exact fun _ => rfl
      · intro h; rw [getD_set_ne false (by decide)] at h; have := f5 h; obtain ⟨q, e1, e2⟩ := this; exact (by first | exact ⟨q, e1, e2⟩ | exact ⟨q, e1, owns_below e2 hb⟩ | exact ⟨q, e1, owns_grown e2 hG (fun g hg => owns_type e2 g2 (by decide) hg)⟩ | (trace_state; fail))
      · intro h _; rw [getD_set_ne false (by decide)] at h; exact (getD_no h0 (hC.step (j := 1) (k := 0) (hC.step (j := 2) (k := 1) (hC.step (j := 6) (k := 2) h (by kernel_rfl)) (by kernel_rfl)) (by kernel_rfl))).elim
      · intro h; rw [getD_set_ne false (by decide)] at h; exact (getD_no h0 (hC.step (j := 1) (k := 0) (hC.step (j := 2) (k := 1) (hC.step (j := 7) (k := 2) h (by kernel_rfl)) (by kernel_rfl)) (by kernel_rfl))).elim
      · first | exact flag_ne (by decide) f8 | exact fun _ => rfl
      · first | exact flag_ne (by decide) f9 | exact fun _ => rfl
      · first | exact flag_ne (by decide) f10 | exact fun _ => rfl
      · first | exact flag_ne (by decide) f11 | exact fun _ => rfl
      · first | exact flag_ne (by decide) f12 | exact fun _ => rfl
      · first | exact flag_ne (by decide) f17 | exact fun _ => rfl
      · intro h; rw [getD_set_ne false (by decide)] at h; exact (getD_no h0 (hC.step (j := 18) (k := 0) h (by kernel_rfl))).elim
      · first | exact flag_ne (by decide) f19 | exact fun _ => rfl
    · refine StepAt.mk (o := { dst := some 5, op := Op.load 9 (Operand.tmp 4), type := 9, pos := _, after := #[{ on := 0, ground := Ground.data }], guard := none }) (ws := [0]) rfl (by kernel_rfl) ?_
      rintro L b v hC h0 hA ⟨u2, u3, u4, u5, u6, u7, u8, u9, u10, u11, u12, u13, u14, u15, u16, u17, u18, u19, u20, u21, rfl, hHeld, f0, f1, f2, f3, f4, f5, f6, f7, f8, f9, f10, f11, f12, f17, f18, f19⟩ K hK
      have g0 := f0 (hA 0 (by simp))
      obtain rfl := g0
      rw [if_pos (by kernel_rfl)]
      have q0 := cellB hHeld C0 hz0
      have q1 := cellB hHeld C1 hz0
      go_simp
      try simp only [Act.put, List.setIfInBounds_toArray, List.set_cons_zero, List.set_cons_succ]
      refine hK.out _ _ ⟨_, _, _, _, _, _, _, _, _, _, _, _, _, _, _, _, _, _, _, _, rfl, ?_, ?_, ?_, ?_, ?_, ?_, ?_, ?_, ?_, ?_, ?_, ?_, ?_, ?_, ?_, ?_, ?_⟩
      · first | exact hHeld | exact hHeld.trans (hb.mono hHeld.size) | (trace_state; fail)
      · first | exact flag_ne (by decide) f0 | exact fun _ => rfl
      · intro _; first | rfl | (trace_state; fail)
      · intro h _; rw [getD_set_ne false (by decide)] at h; exact (getD_no h0 (hC.step (j := 2) (k := 1) h (by kernel_rfl))).elim
      · first | exact flag_ne (by decide) f3 | exact fun _ => rfl
      · first | exact flag_ne (by decide) f4 | exact fun _ => rfl
      · intro h; rw [getD_set_ne false (by decide)] at h; have := f5 h; obtain ⟨q, e1, e2⟩ := this; exact (by first | exact ⟨q, e1, e2⟩ | exact ⟨q, e1, owns_below e2 hb⟩ | exact ⟨q, e1, owns_grown e2 hG (fun g hg => owns_type e2 g2 (by decide) hg)⟩ | (trace_state; fail))
      · intro h _; rw [getD_set_ne false (by decide)] at h; exact (getD_no h0 (hC.step (j := 2) (k := 1) (hC.step (j := 6) (k := 2) h (by kernel_rfl)) (by kernel_rfl))).elim
      · intro h; rw [getD_set_ne false (by decide)] at h; exact (getD_no h0 (hC.step (j := 2) (k := 1) (hC.step (j := 7) (k := 2) h (by kernel_rfl)) (by kernel_rfl))).elim
      · first | exact flag_ne (by decide) f8 | exact fun _ => rfl
      · first | exact flag_ne (by decide) f9 | exact fun _ => rfl
      · first | exact flag_ne (by decide) f10 | exact fun _ => rfl
      · first | exact flag_ne (by decide) f11 | exact fun _ => rfl
      · first | exact flag_ne (by decide) f12 | exact fun _ => rfl
      · first | exact flag_ne (by decide) f17 | exact fun _ => rfl
      · intro h; rw [getD_set_ne false (by decide)] at h; exact (getD_no h0 (hC.step (j := 18) (k := 1) h (by kernel_rfl))).elim
      · first | exact flag_ne (by decide) f19 | exact fun _ => rfl
    · refine StepAt.mk (o := { dst := some 6, op := Op.call { callee := Callee.value (Operand.func 37), args := #[Operand.const (Value.slice none 0 0), Operand.tmp 5], argTypes := #[23, 9] }, type := 23, pos := _, after := #[{ on := 1, ground := Ground.data }], guard := none }) (ws := [1]) rfl (by kernel_rfl) ?_
      rintro L b v hC h0 hA ⟨u2, u3, u4, u5, u6, u7, u8, u9, u10, u11, u12, u13, u14, u15, u16, u17, u18, u19, u20, u21, rfl, hHeld, f0, f1, f2, f3, f4, f5, f6, f7, f8, f9, f10, f11, f12, f17, f18, f19⟩ K hK
      have g1 := f1 (hA 1 (by simp))
      obtain rfl := g1
      rw [if_pos (by kernel_rfl)]
      have q0 := cellB hHeld C0 hz0
      have q1 := cellB hHeld C1 hz0
      go_simp
      refine (HTX.out v).mono ?_; rintro e v1 ⟨r, rfl, HO, hb⟩
      go_wp2_with fail
      try simp only [Act.put, List.setIfInBounds_toArray, List.set_cons_zero, List.set_cons_succ]
      refine hK.out _ _ ⟨_, _, _, _, _, _, _, _, _, _, _, _, _, _, _, _, _, _, _, _, rfl, ?_, ?_, ?_, ?_, ?_, ?_, ?_, ?_, ?_, ?_, ?_, ?_, ?_, ?_, ?_, ?_, ?_⟩
      · first | exact hHeld | exact hHeld.trans (hb.mono hHeld.size) | (trace_state; fail)
      · first | exact flag_ne (by decide) f0 | exact fun _ => rfl
      · first | exact flag_ne (by decide) f1 | exact fun _ => rfl
      · intro _ _; first | (exact own_low HO hHeld.size) | (trace_state; fail)
      · first | exact flag_ne (by decide) f3 | exact fun _ => rfl
      · first | exact flag_ne (by decide) f4 | exact fun _ => rfl
      · intro h; rw [getD_set_ne false (by decide)] at h; have := f5 h; obtain ⟨q, e1, e2⟩ := this; exact (by first | exact ⟨q, e1, e2⟩ | exact ⟨q, e1, owns_below e2 hb⟩ | exact ⟨q, e1, owns_grown e2 hG (fun g hg => owns_type e2 g2 (by decide) hg)⟩ | (trace_state; fail))
      · intro h _; rw [getD_set_ne false (by decide)] at h; exact (getD_no h0 (hC.step (j := 6) (k := 2) h (by kernel_rfl))).elim
      · intro h; rw [getD_set_ne false (by decide)] at h; exact (getD_no h0 (hC.step (j := 7) (k := 2) h (by kernel_rfl))).elim
      · first | exact flag_ne (by decide) f8 | exact fun _ => rfl
      · first | exact flag_ne (by decide) f9 | exact fun _ => rfl
      · first | exact flag_ne (by decide) f10 | exact fun _ => rfl
      · first | exact flag_ne (by decide) f11 | exact fun _ => rfl
      · first | exact flag_ne (by decide) f12 | exact fun _ => rfl
      · first | exact flag_ne (by decide) f17 | exact fun _ => rfl
      · intro h; rw [getD_set_ne false (by decide)] at h; exact (getD_no h0 (hC.step (j := 18) (k := 2) h (by kernel_rfl))).elim
      · first | exact flag_ne (by decide) f19 | exact fun _ => rfl
    · refine StepAt.mk (o := { dst := some 7, op := Op.fieldAddr 42 (Operand.tmp 1) 1, type := 0, pos := _, after := #[], guard := none }) (ws := []) rfl (by kernel_rfl) ?_
      rintro L b v hC h0 hA ⟨u2, u3, u4, u5, u6, u7, u8, u9, u10, u11, u12, u13, u14, u15, u16, u17, u18, u19, u20, u21, rfl, hHeld, f0, f1, f2, f3, f4, f5, f6, f7, f8, f9, f10, f11, f12, f17, f18, f19⟩ K hK
      rw [if_pos (by kernel_rfl)]
      have q0 := cellB hHeld C0 hz0
      have q1 := cellB hHeld C1 hz0
      go_simp
      try simp only [Act.put, List.setIfInBounds_toArray, List.set_cons_zero, List.set_cons_succ]
      refine hK.out _ _ ⟨_, _, _, _, _, _, _, _, _, _, _, _, _, _, _, _, _, _, _, _, rfl, ?_, ?_, ?_, ?_, ?_, ?_, ?_, ?_, ?_, ?_, ?_, ?_, ?_, ?_, ?_, ?_, ?_⟩
      · first | exact hHeld | exact hHeld.trans (hb.mono hHeld.size) | (trace_state; fail)
      · first | exact flag_ne (by decide) f0 | exact fun _ => rfl
      · first | exact flag_ne (by decide) f1 | exact fun _ => rfl
      · intro h h7; rw [getD_set_ne false (by decide)] at h; rw [getD_set_ne true (by decide)] at h7; have := f2 h h7; first | exact this | exact owns_below this hb | (trace_state; fail)
      · intro _; first | rfl | (trace_state; fail)
      · first | exact flag_ne (by decide) f4 | exact fun _ => rfl
      · intro h; rw [getD_set_ne false (by decide)] at h; exact (getD_no h0 (hC.step (j := 4) (k := 3) (hC.step (j := 5) (k := 4) h (by kernel_rfl)) (by kernel_rfl))).elim
      · intro h _; rw [getD_set_ne false (by decide)] at h; exact (getD_no h0 (hC.step (j := 4) (k := 3) (hC.step (j := 5) (k := 4) (hC.step (j := 6) (k := 5) h (by kernel_rfl)) (by kernel_rfl)) (by kernel_rfl))).elim
      · intro h; rw [getD_set_ne false (by decide)] at h; exact (getD_no h0 (hC.step (j := 4) (k := 3) (hC.step (j := 5) (k := 4) (hC.step (j := 6) (k := 5) (hC.step (j := 7) (k := 6) h (by kernel_rfl)) (by kernel_rfl)) (by kernel_rfl)) (by kernel_rfl))).elim
      · first | exact flag_ne (by decide) f8 | exact fun _ => rfl
      · first | exact flag_ne (by decide) f9 | exact fun _ => rfl
      · first | exact flag_ne (by decide) f10 | exact fun _ => rfl
      · first | exact flag_ne (by decide) f11 | exact fun _ => rfl
      · first | exact flag_ne (by decide) f12 | exact fun _ => rfl
      · first | exact flag_ne (by decide) f17 | exact fun _ => rfl
      · intro h; rw [getD_set_ne false (by decide)] at h; exact (getD_no h0 (hC.step (j := 18) (k := 3) h (by kernel_rfl))).elim
      · first | exact flag_ne (by decide) f19 | exact fun _ => rfl
    · refine StepAt.mk (o := { dst := some 8, op := Op.load 3 (Operand.tmp 7), type := 3, pos := _, after := #[{ on := 3, ground := Ground.data }], guard := none }) (ws := [3]) rfl (by kernel_rfl) ?_
      rintro L b v hC h0 hA ⟨u2, u3, u4, u5, u6, u7, u8, u9, u10, u11, u12, u13, u14, u15, u16, u17, u18, u19, u20, u21, rfl, hHeld, f0, f1, f2, f3, f4, f5, f6, f7, f8, f9, f10, f11, f12, f17, f18, f19⟩ K hK
      have g3 := f3 (hA 3 (by simp))
      obtain rfl := g3
      rw [if_pos (by kernel_rfl)]
      have q0 := cellB hHeld C0 hz0
      have q1 := cellB hHeld C1 hz0
      go_simp
      try simp only [Act.put, List.setIfInBounds_toArray, List.set_cons_zero, List.set_cons_succ]
      refine hK.out _ _ ⟨_, _, _, _, _, _, _, _, _, _, _, _, _, _, _, _, _, _, _, _, rfl, ?_, ?_, ?_, ?_, ?_, ?_, ?_, ?_, ?_, ?_, ?_, ?_, ?_, ?_, ?_, ?_, ?_⟩
      · first | exact hHeld | exact hHeld.trans (hb.mono hHeld.size) | (trace_state; fail)
      · first | exact flag_ne (by decide) f0 | exact fun _ => rfl
      · first | exact flag_ne (by decide) f1 | exact fun _ => rfl
      · intro h h7; rw [getD_set_ne false (by decide)] at h; rw [getD_set_ne true (by decide)] at h7; have := f2 h h7; first | exact this | exact owns_below this hb | (trace_state; fail)
      · first | exact flag_ne (by decide) f3 | exact fun _ => rfl
      · intro _; first | rfl | (trace_state; fail)
      · intro h; rw [getD_set_ne false (by decide)] at h; exact (getD_no h0 (hC.step (j := 5) (k := 4) h (by kernel_rfl))).elim
      · intro h _; rw [getD_set_ne false (by decide)] at h; exact (getD_no h0 (hC.step (j := 5) (k := 4) (hC.step (j := 6) (k := 5) h (by kernel_rfl)) (by kernel_rfl))).elim
      · intro h; rw [getD_set_ne false (by decide)] at h; exact (getD_no h0 (hC.step (j := 5) (k := 4) (hC.step (j := 6) (k := 5) (hC.step (j := 7) (k := 6) h (by kernel_rfl)) (by kernel_rfl)) (by kernel_rfl))).elim
      · first | exact flag_ne (by decide) f8 | exact fun _ => rfl
      · first | exact flag_ne (by decide) f9 | exact fun _ => rfl
      · first | exact flag_ne (by decide) f10 | exact fun _ => rfl
      · first | exact flag_ne (by decide) f11 | exact fun _ => rfl
      · first | exact flag_ne (by decide) f12 | exact fun _ => rfl
      · first | exact flag_ne (by decide) f17 | exact fun _ => rfl
      · intro h; rw [getD_set_ne false (by decide)] at h; exact (getD_no h0 (hC.step (j := 18) (k := 4) h (by kernel_rfl))).elim
      · first | exact flag_ne (by decide) f19 | exact fun _ => rfl
    · refine StepAt.mk (o := { dst := some 9, op := Op.buildSlice 75 1 #[(0, Operand.tmp 8)], type := 75, pos := _, after := #[{ on := 4, ground := Ground.data }], guard := none }) (ws := [4]) rfl (by kernel_rfl) ?_
      rintro L b v hC h0 hA ⟨u2, u3, u4, u5, u6, u7, u8, u9, u10, u11, u12, u13, u14, u15, u16, u17, u18, u19, u20, u21, rfl, hHeld, f0, f1, f2, f3, f4, f5, f6, f7, f8, f9, f10, f11, f12, f17, f18, f19⟩ K hK
      have g4 := f4 (hA 4 (by simp))
      obtain rfl := g4
      rw [if_pos (by kernel_rfl)]
      have q0 := cellB hHeld C0 hz0
      have q1 := cellB hHeld C1 hz0
      go_simp
      try simp only [Act.put, List.setIfInBounds_toArray, List.set_cons_zero, List.set_cons_succ]
      have hb : Below v.heap.size v (v.alloc (.cells #[.int .i64 k] 3)) := (Below.refl _ _).alloc (Nat.le_refl _) _
      refine hK.out _ _ ⟨_, _, _, _, _, _, _, _, _, _, _, _, _, _, _, _, _, _, _, _, rfl, ?_, ?_, ?_, ?_, ?_, ?_, ?_, ?_, ?_, ?_, ?_, ?_, ?_, ?_, ?_, ?_, ?_⟩
      · first | exact hHeld | exact hHeld.trans (hb.mono hHeld.size) | (trace_state; fail)
      · first | exact flag_ne (by decide) f0 | exact fun _ => rfl
      · first | exact flag_ne (by decide) f1 | exact fun _ => rfl
      · intro h h7; rw [getD_set_ne false (by decide)] at h; rw [getD_set_ne true (by decide)] at h7; have := f2 h h7; first | exact this | exact owns_below this hb | (trace_state; fail)
      · first | exact flag_ne (by decide) f3 | exact fun _ => rfl
      · first | exact flag_ne (by decide) f4 | exact fun _ => rfl
      · intro _; first | exact ⟨_, rfl, owns_int1 _ k hHeld.size⟩ | (trace_state; fail)
      · intro h _; rw [getD_set_ne false (by decide)] at h; exact (getD_no h0 (hC.step (j := 6) (k := 5) h (by kernel_rfl))).elim
      · intro h; rw [getD_set_ne false (by decide)] at h; exact (getD_no h0 (hC.step (j := 6) (k := 5) (hC.step (j := 7) (k := 6) h (by kernel_rfl)) (by kernel_rfl))).elim
      · first | exact flag_ne (by decide) f8 | exact fun _ => rfl
      · first | exact flag_ne (by decide) f9 | exact fun _ => rfl
      · first | exact flag_ne (by decide) f10 | exact fun _ => rfl
      · first | exact flag_ne (by decide) f11 | exact fun _ => rfl
      · first | exact flag_ne (by decide) f12 | exact fun _ => rfl
      · first | exact flag_ne (by decide) f17 | exact fun _ => rfl
      · intro h; rw [getD_set_ne false (by decide)] at h; exact (getD_no h0 (hC.step (j := 18) (k := 5) h (by kernel_rfl))).elim
      · first | exact flag_ne (by decide) f19 | exact fun _ => rfl
    · refine StepAt.mk (o := { dst := some 10, op := Op.call { callee := Callee.value (Operand.func 25), args := #[Operand.tmp 9], argTypes := #[75] }, type := 23, pos := _, after := #[{ on := 5, ground := Ground.data }, { on := 2, ground := Ground.chain }], guard := none }) (ws := [5, 2]) rfl (by kernel_rfl) ?_
      rintro L b v hC h0 hA ⟨u2, u3, u4, u5, u6, u7, u8, u9, u10, u11, u12, u13, u14, u15, u16, u17, u18, u19, u20, u21, rfl, hHeld, f0, f1, f2, f3, f4, f5, f6, f7, f8, f9, f10, f11, f12, f17, f18, f19⟩ K hK
      have g5 := f5 (hA 5 (by simp))
      obtain ⟨q9, rfl, H9⟩ := g5
      have g2 := f2 (hA 2 (by simp))
      rw [if_pos (by kernel_rfl)]
      have q0 := cellB hHeld C0 hz0
      have q1 := cellB hHeld C1 hz0
      go_simp
      refine (tab_bytesOf _ [k] v (row_of_owns H9 (fun z hz => by simp at hz; exact hz ▸ hk)) (by simp)).mono ?_; rintro e v1 ⟨r, rfl, HO, hb⟩
      go_wp2_with fail
      try simp only [Act.put, List.setIfInBounds_toArray, List.set_cons_zero, List.set_cons_succ]
      refine hK.out _ _ ⟨_, _, _, _, _, _, _, _, _, _, _, _, _, _, _, _, _, _, _, _, rfl, ?_, ?_, ?_, ?_, ?_, ?_, ?_, ?_, ?_, ?_, ?_, ?_, ?_, ?_, ?_, ?_, ?_⟩
      · first | exact hHeld | exact hHeld.trans (hb.mono hHeld.size) | (trace_state; fail)
      · first | exact flag_ne (by decide) f0 | exact fun _ => rfl
      · first | exact flag_ne (by decide) f1 | exact fun _ => rfl
      · intro h h7; rw [getD_set_ne false (by decide)] at h; rw [getD_set_ne true (by decide)] at h7; have := f2 h h7; first | exact this | exact owns_below this hb | (trace_state; fail)
      · first | exact flag_ne (by decide) f3 | exact fun _ => rfl
      · first | exact flag_ne (by decide) f4 | exact fun _ => rfl
      · intro h; rw [getD_set_ne false (by decide)] at h; have := f5 h; obtain ⟨q, e1, e2⟩ := this; exact (by first | exact ⟨q, e1, e2⟩ | exact ⟨q, e1, owns_below e2 hb⟩ | exact ⟨q, e1, owns_grown e2 hG (fun g hg => owns_type e2 g2 (by decide) hg)⟩ | (trace_state; fail))
      · intro _ _; first | (exact own_low HO hHeld.size) | (trace_state; fail)
      · intro h; rw [getD_set_ne false (by decide)] at h; exact (getD_no h0 (hC.step (j := 7) (k := 6) h (by kernel_rfl))).elim
      · first | exact flag_ne (by decide) f8 | exact fun _ => rfl
      · first | exact flag_ne (by decide) f9 | exact fun _ => rfl
      · first | exact flag_ne (by decide) f10 | exact fun _ => rfl
      · first | exact flag_ne (by decide) f11 | exact fun _ => rfl
      · first | exact flag_ne (by decide) f12 | exact fun _ => rfl
      · first | exact flag_ne (by decide) f17 | exact fun _ => rfl
      · intro h; rw [getD_set_ne false (by decide)] at h; exact (getD_no h0 (hC.step (j := 18) (k := 6) h (by kernel_rfl))).elim
      · first | exact flag_ne (by decide) f19 | exact fun _ => rfl
    · refine StepAt.mk (o := { dst := some 11, op := Op.call { callee := Callee.builtin Builtin.append, args := #[Operand.tmp 6, Operand.tmp 10], argTypes := #[23, 23] }, type := 23, pos := _, after := #[{ on := 2, ground := Ground.data }, { on := 6, ground := Ground.data }, { on := 6, ground := Ground.chain }], guard := none }) (ws := [2, 6, 6]) rfl (by kernel_rfl) ?_
      rintro L b v hC h0 hA ⟨u2, u3, u4, u5, u6, u7, u8, u9, u10, u11, u12, u13, u14, u15, u16, u17, u18, u19, u20, u21, rfl, hHeld, f0, f1, f2, f3, f4, f5, f6, f7, f8, f9, f10, f11, f12, f17, f18, f19⟩ K hK
      have g2 := f2 (hA 2 (by simp)) h0
      have g6 := f6 (hA 6 (by simp)) h0
      rw [if_pos (by kernel_rfl)]
      have q0 := cellB hHeld C0 hz0
      have q1 := cellB hHeld C1 hz0
      refine wp_append_src (.tmp 6) (.tmp 10) 23 rfl W0.heap.size 5 i (.int .u8 0) 1 1 Try.underlying23 hi hz hsize hby rfl (by omega) u6 N _ rfl g2 u10 1 _ rfl (src_own g6) rfl (bytesV_one _) (by unfold maxLen; omega) (by omega) hHeld.size ?_; intro v' w' HO hG
      try simp only [Act.put, List.setIfInBounds_toArray, List.set_cons_zero, List.set_cons_succ]
      refine hK.out _ _ ⟨_, _, _, _, _, _, _, _, _, _, _, _, _, _, _, _, _, _, _, _, rfl, ?_, ?_, ?_, ?_, ?_, ?_, ?_, ?_, ?_, ?_, ?_, ?_, ?_, ?_, ?_, ?_, ?_⟩
      · exact grown3 hHeld hHeld.size g2 hG
      · first | exact flag_ne (by decide) f0 | exact fun _ => rfl
      · first | exact flag_ne (by decide) f1 | exact fun _ => rfl
      · intro _ h7; rw [getD_set_self] at h7; cases h7
      · first | exact flag_ne (by decide) f3 | exact fun _ => rfl
      · first | exact flag_ne (by decide) f4 | exact fun _ => rfl
      · intro h; rw [getD_set_ne false (by decide)] at h; have := f5 h; obtain ⟨q, e1, e2⟩ := this; exact (by first | exact ⟨q, e1, e2⟩ | exact ⟨q, e1, owns_below e2 hb⟩ | exact ⟨q, e1, owns_grown e2 hG (fun g hg => owns_type e2 g2 (by decide) hg)⟩ | (trace_state; fail))
      · intro _ h7; rw [getD_set_self] at h7; cases h7
      · intro _; first | exact HO | (trace_state; fail)
      · first | exact flag_ne (by decide) f8 | exact fun _ => rfl
      · first | exact flag_ne (by decide) f9 | exact fun _ => rfl
      · first | exact flag_ne (by decide) f10 | exact fun _ => rfl
      · first | exact flag_ne (by decide) f11 | exact fun _ => rfl
      · first | exact flag_ne (by decide) f12 | exact fun _ => rfl
      · first | exact flag_ne (by decide) f17 | exact fun _ => rfl
      · intro h; rw [getD_set_ne false (by decide)] at h; exact (getD_no h0 (hC.step (j := 18) (k := 7) h (by kernel_rfl))).elim
      · first | exact flag_ne (by decide) f19 | exact fun _ => rfl
    · refine StepAt.mk (o := { dst := some 12, op := Op.fieldAddr 42 (Operand.tmp 1) 0, type := 0, pos := _, after := #[], guard := none }) (ws := []) rfl (by kernel_rfl) ?_
      rintro L b v hC h0 hA ⟨u2, u3, u4, u5, u6, u7, u8, u9, u10, u11, u12, u13, u14, u15, u16, u17, u18, u19, u20, u21, rfl, hHeld, f0, f1, f2, f3, f4, f5, f6, f7, f8, f9, f10, f11, f12, f17, f18, f19⟩ K hK
      rw [if_pos (by kernel_rfl)]
      have q0 := cellB hHeld C0 hz0
      have q1 := cellB hHeld C1 hz0
      go_simp
      try simp only [Act.put, List.setIfInBounds_toArray, List.set_cons_zero, List.set_cons_succ]
      refine hK.out _ _ ⟨_, _, _, _, _, _, _, _, _, _, _, _, _, _, _, _, _, _, _, _, rfl, ?_, ?_, ?_, ?_, ?_, ?_, ?_, ?_, ?_, ?_, ?_, ?_, ?_, ?_, ?_, ?_, ?_⟩
      · first | exact hHeld | exact hHeld.trans (hb.mono hHeld.size) | (trace_state; fail)
      · first | exact flag_ne (by decide) f0 | exact fun _ => rfl
      · first | exact flag_ne (by decide) f1 | exact fun _ => rfl
      · intro h h7; rw [getD_set_ne false (by decide)] at h; rw [getD_set_ne true (by decide)] at h7; have := f2 h h7; first | exact this | exact owns_below this hb | (trace_state; fail)
      · first | exact flag_ne (by decide) f3 | exact fun _ => rfl
      · first | exact flag_ne (by decide) f4 | exact fun _ => rfl
      · intro h; rw [getD_set_ne false (by decide)] at h; have := f5 h; obtain ⟨q, e1, e2⟩ := this; exact (by first | exact ⟨q, e1, e2⟩ | exact ⟨q, e1, owns_below e2 hb⟩ | exact ⟨q, e1, owns_grown e2 hG (fun g hg => owns_type e2 g2 (by decide) hg)⟩ | (trace_state; fail))
      · intro h h7; rw [getD_set_ne false (by decide)] at h; rw [getD_set_ne true (by decide)] at h7; have := f6 h h7; first | exact this | exact owns_below this hb | (trace_state; fail)
      · intro h; rw [getD_set_ne false (by decide)] at h; have := f7 h; first | exact this | exact owns_below this hb | (trace_state; fail)
      · intro _; first | rfl | (trace_state; fail)
      · first | exact flag_ne (by decide) f9 | exact fun _ => rfl
      · first | exact flag_ne (by decide) f10 | exact fun _ => rfl
      · first | exact flag_ne (by decide) f11 | exact fun _ => rfl
      · first | exact flag_ne (by decide) f12 | exact fun _ => rfl
      · first | exact flag_ne (by decide) f17 | exact fun _ => rfl
      · intro h; rw [getD_set_ne false (by decide)] at h; exact (getD_no h0 (hC.step (j := 9) (k := 8) (hC.step (j := 10) (k := 9) (hC.step (j := 11) (k := 10) (hC.step (j := 12) (k := 11) (hC.step (j := 16) (k := 12) (hC.step (j := 18) (k := 16) h (by kernel_rfl)) (by kernel_rfl)) (by kernel_rfl)) (by kernel_rfl)) (by kernel_rfl)) (by kernel_rfl))).elim
      · first | exact flag_ne (by decide) f19 | exact fun _ => rfl
    · refine StepAt.mk (o := { dst := some 13, op := Op.load 9 (Operand.tmp 12), type := 9, pos := _, after := #[{ on := 8, ground := Ground.data }], guard := none }) (ws := [8]) rfl (by kernel_rfl) ?_
      rintro L b v hC h0 hA ⟨u2, u3, u4, u5, u6, u7, u8, u9, u10, u11, u12, u13, u14, u15, u16, u17, u18, u19, u20, u21, rfl, hHeld, f0, f1, f2, f3, f4, f5, f6, f7, f8, f9, f10, f11, f12, f17, f18, f19⟩ K hK
      have g8 := f8 (hA 8 (by simp))
      obtain rfl := g8
      rw [if_pos (by kernel_rfl)]
      have q0 := cellB hHeld C0 hz0
      have q1 := cellB hHeld C1 hz0
      go_simp
      try simp only [Act.put, List.setIfInBounds_toArray, List.set_cons_zero, List.set_cons_succ]
      refine hK.out _ _ ⟨_, _, _, _, _, _, _, _, _, _, _, _, _, _, _, _, _, _, _, _, rfl, ?_, ?_, ?_, ?_, ?_, ?_, ?_, ?_, ?_, ?_, ?_, ?_, ?_, ?_, ?_, ?_, ?_⟩
      · first | exact hHeld | exact hHeld.trans (hb.mono hHeld.size) | (trace_state; fail)
      · first | exact flag_ne (by decide) f0 | exact fun _ => rfl
      · first | exact flag_ne (by decide) f1 | exact fun _ => rfl
      · intro h h7; rw [getD_set_ne false (by decide)] at h; rw [getD_set_ne true (by decide)] at h7; have := f2 h h7; first | exact this | exact owns_below this hb | (trace_state; fail)
      · first | exact flag_ne (by decide) f3 | exact fun _ => rfl
      · first | exact flag_ne (by decide) f4 | exact fun _ => rfl
      · intro h; rw [getD_set_ne false (by decide)] at h; have := f5 h; obtain ⟨q, e1, e2⟩ := this; exact (by first | exact ⟨q, e1, e2⟩ | exact ⟨q, e1, owns_below e2 hb⟩ | exact ⟨q, e1, owns_grown e2 hG (fun g hg => owns_type e2 g2 (by decide) hg)⟩ | (trace_state; fail))
      · intro h h7; rw [getD_set_ne false (by decide)] at h; rw [getD_set_ne true (by decide)] at h7; have := f6 h h7; first | exact this | exact owns_below this hb | (trace_state; fail)
      · intro h; rw [getD_set_ne false (by decide)] at h; have := f7 h; first | exact this | exact owns_below this hb | (trace_state; fail)
      · first | exact flag_ne (by decide) f8 | exact fun _ => rfl
      · intro _; first | rfl | (trace_state; fail)
      · first | exact flag_ne (by decide) f10 | exact fun _ => rfl
      · first | exact flag_ne (by decide) f11 | exact fun _ => rfl
      · first | exact flag_ne (by decide) f12 | exact fun _ => rfl
      · first | exact flag_ne (by decide) f17 | exact fun _ => rfl
      · intro h; rw [getD_set_ne false (by decide)] at h; exact (getD_no h0 (hC.step (j := 10) (k := 9) (hC.step (j := 11) (k := 10) (hC.step (j := 12) (k := 11) (hC.step (j := 16) (k := 12) (hC.step (j := 18) (k := 16) h (by kernel_rfl)) (by kernel_rfl)) (by kernel_rfl)) (by kernel_rfl)) (by kernel_rfl))).elim
      · first | exact flag_ne (by decide) f19 | exact fun _ => rfl
    · refine StepAt.mk (o := { dst := some 14, op := Op.call { callee := Callee.builtin Builtin.len, args := #[Operand.tmp 13], argTypes := #[9] }, type := 3, pos := _, after := #[{ on := 9, ground := Ground.data }], guard := none }) (ws := [9]) rfl (by kernel_rfl) ?_
      rintro L b v hC h0 hA ⟨u2, u3, u4, u5, u6, u7, u8, u9, u10, u11, u12, u13, u14, u15, u16, u17, u18, u19, u20, u21, rfl, hHeld, f0, f1, f2, f3, f4, f5, f6, f7, f8, f9, f10, f11, f12, f17, f18, f19⟩ K hK
      have g9 := f9 (hA 9 (by simp))
      obtain rfl := g9
      rw [if_pos (by kernel_rfl)]
      have q0 := cellB hHeld C0 hz0
      have q1 := cellB hHeld C1 hz0
      go_simp
      try simp only [Act.put, List.setIfInBounds_toArray, List.set_cons_zero, List.set_cons_succ]
      refine hK.out _ _ ⟨_, _, _, _, _, _, _, _, _, _, _, _, _, _, _, _, _, _, _, _, rfl, ?_, ?_, ?_, ?_, ?_, ?_, ?_, ?_, ?_, ?_, ?_, ?_, ?_, ?_, ?_, ?_, ?_⟩
      · first | exact hHeld | exact hHeld.trans (hb.mono hHeld.size) | (trace_state; fail)
      · first | exact flag_ne (by decide) f0 | exact fun _ => rfl
      · first | exact flag_ne (by decide) f1 | exact fun _ => rfl
      · intro h h7; rw [getD_set_ne false (by decide)] at h; rw [getD_set_ne true (by decide)] at h7; have := f2 h h7; first | exact this | exact owns_below this hb | (trace_state; fail)
      · first | exact flag_ne (by decide) f3 | exact fun _ => rfl
      · first | exact flag_ne (by decide) f4 | exact fun _ => rfl
      · intro h; rw [getD_set_ne false (by decide)] at h; have := f5 h; obtain ⟨q, e1, e2⟩ := this; exact (by first | exact ⟨q, e1, e2⟩ | exact ⟨q, e1, owns_below e2 hb⟩ | exact ⟨q, e1, owns_grown e2 hG (fun g hg => owns_type e2 g2 (by decide) hg)⟩ | (trace_state; fail))
      · intro h h7; rw [getD_set_ne false (by decide)] at h; rw [getD_set_ne true (by decide)] at h7; have := f6 h h7; first | exact this | exact owns_below this hb | (trace_state; fail)
      · intro h; rw [getD_set_ne false (by decide)] at h; have := f7 h; first | exact this | exact owns_below this hb | (trace_state; fail)
      · first | exact flag_ne (by decide) f8 | exact fun _ => rfl
      · first | exact flag_ne (by decide) f9 | exact fun _ => rfl
      · intro _; first | rfl | (trace_state; fail)
      · first | exact flag_ne (by decide) f11 | exact fun _ => rfl
      · first | exact flag_ne (by decide) f12 | exact fun _ => rfl
      · first | exact flag_ne (by decide) f17 | exact fun _ => rfl
      · intro h; rw [getD_set_ne false (by decide)] at h; exact (getD_no h0 (hC.step (j := 11) (k := 10) (hC.step (j := 12) (k := 11) (hC.step (j := 16) (k := 12) (hC.step (j := 18) (k := 16) h (by kernel_rfl)) (by kernel_rfl)) (by kernel_rfl)) (by kernel_rfl))).elim
      · first | exact flag_ne (by decide) f19 | exact fun _ => rfl
    · refine StepAt.mk (o := { dst := some 15, op := Op.binOp BinOp.leq 3 (Operand.tmp 14) (Operand.const (Value.int IntKind.i64 255)) 3, type := 4, pos := _, after := #[{ on := 10, ground := Ground.data }], guard := none }) (ws := [10]) rfl (by kernel_rfl) ?_
      rintro L b v hC h0 hA ⟨u2, u3, u4, u5, u6, u7, u8, u9, u10, u11, u12, u13, u14, u15, u16, u17, u18, u19, u20, u21, rfl, hHeld, f0, f1, f2, f3, f4, f5, f6, f7, f8, f9, f10, f11, f12, f17, f18, f19⟩ K hK
      have g10 := f10 (hA 10 (by simp))
      obtain rfl := g10
      rw [if_pos (by kernel_rfl)]
      have q0 := cellB hHeld C0 hz0
      have q1 := cellB hHeld C1 hz0
      go_simp
      try simp only [Act.put, List.setIfInBounds_toArray, List.set_cons_zero, List.set_cons_succ]
      refine hK.out _ _ ⟨_, _, _, _, _, _, _, _, _, _, _, _, _, _, _, _, _, _, _, _, rfl, ?_, ?_, ?_, ?_, ?_, ?_, ?_, ?_, ?_, ?_, ?_, ?_, ?_, ?_, ?_, ?_, ?_⟩
      · first | exact hHeld | exact hHeld.trans (hb.mono hHeld.size) | (trace_state; fail)
      · first | exact flag_ne (by decide) f0 | exact fun _ => rfl
      · first | exact flag_ne (by decide) f1 | exact fun _ => rfl
      · intro h h7; rw [getD_set_ne false (by decide)] at h; rw [getD_set_ne true (by decide)] at h7; have := f2 h h7; first | exact this | exact owns_below this hb | (trace_state; fail)
      · first | exact flag_ne (by decide) f3 | exact fun _ => rfl
      · first | exact flag_ne (by decide) f4 | exact fun _ => rfl
      · intro h; rw [getD_set_ne false (by decide)] at h; have := f5 h; obtain ⟨q, e1, e2⟩ := this; exact (by first | exact ⟨q, e1, e2⟩ | exact ⟨q, e1, owns_below e2 hb⟩ | exact ⟨q, e1, owns_grown e2 hG (fun g hg => owns_type e2 g2 (by decide) hg)⟩ | (trace_state; fail))
      · intro h h7; rw [getD_set_ne false (by decide)] at h; rw [getD_set_ne true (by decide)] at h7; have := f6 h h7; first | exact this | exact owns_below this hb | (trace_state; fail)
      · intro h; rw [getD_set_ne false (by decide)] at h; have := f7 h; first | exact this | exact owns_below this hb | (trace_state; fail)
      · first | exact flag_ne (by decide) f8 | exact fun _ => rfl
      · first | exact flag_ne (by decide) f9 | exact fun _ => rfl
      · first | exact flag_ne (by decide) f10 | exact fun _ => rfl
      · intro _; first | rfl | (trace_state; fail)
      · first | exact flag_ne (by decide) f12 | exact fun _ => rfl
      · first | exact flag_ne (by decide) f17 | exact fun _ => rfl
      · intro h; rw [getD_set_ne false (by decide)] at h; exact (getD_no h0 (hC.step (j := 12) (k := 11) (hC.step (j := 16) (k := 12) (hC.step (j := 18) (k := 16) h (by kernel_rfl)) (by kernel_rfl)) (by kernel_rfl))).elim
      · first | exact flag_ne (by decide) f19 | exact fun _ => rfl
    · refine StepAt.mk (o := { dst := some 16, op := Op.move (Operand.tmp 15), type := 4, pos := _, after := #[{ on := 11, ground := Ground.data }, { on := 7, ground := Ground.chain }], guard := none }) (ws := [11, 7]) rfl (by kernel_rfl) ?_
      rintro L b v hC h0 hA ⟨u2, u3, u4, u5, u6, u7, u8, u9, u10, u11, u12, u13, u14, u15, u16, u17, u18, u19, u20, u21, rfl, hHeld, f0, f1, f2, f3, f4, f5, f6, f7, f8, f9, f10, f11, f12, f17, f18, f19⟩ K hK
      have g11 := f11 (hA 11 (by simp))
      obtain rfl := g11
      have g7 := f7 (hA 7 (by simp))
      rw [if_pos (by kernel_rfl)]
      have q0 := cellB hHeld C0 hz0
      have q1 := cellB hHeld C1 hz0
      go_simp
      try simp only [Act.put, List.setIfInBounds_toArray, List.set_cons_zero, List.set_cons_succ]
      refine hK.out _ _ ⟨_, _, _, _, _, _, _, _, _, _, _, _, _, _, _, _, _, _, _, _, rfl, ?_, ?_, ?_, ?_, ?_, ?_, ?_, ?_, ?_, ?_, ?_, ?_, ?_, ?_, ?_, ?_, ?_⟩
      · first | exact hHeld | exact hHeld.trans (hb.mono hHeld.size) | (trace_state; fail)
      · first | exact flag_ne (by decide) f0 | exact fun _ => rfl
      · first | exact flag_ne (by decide) f1 | exact fun _ => rfl
      · intro h h7; rw [getD_set_ne false (by decide)] at h; rw [getD_set_ne true (by decide)] at h7; have := f2 h h7; first | exact this | exact owns_below this hb | (trace_state; fail)
      · first | exact flag_ne (by decide) f3 | exact fun _ => rfl
      · first | exact flag_ne (by decide) f4 | exact fun _ => rfl
      · intro h; rw [getD_set_ne false (by decide)] at h; have := f5 h; obtain ⟨q, e1, e2⟩ := this; exact (by first | exact ⟨q, e1, e2⟩ | exact ⟨q, e1, owns_below e2 hb⟩ | exact ⟨q, e1, owns_grown e2 hG (fun g hg => owns_type e2 g2 (by decide) hg)⟩ | (trace_state; fail))
      · intro h h7; rw [getD_set_ne false (by decide)] at h; rw [getD_set_ne true (by decide)] at h7; have := f6 h h7; first | exact this | exact owns_below this hb | (trace_state; fail)
      · intro h; rw [getD_set_ne false (by decide)] at h; have := f7 h; first | exact this | exact owns_below this hb | (trace_state; fail)
      · first | exact flag_ne (by decide) f8 | exact fun _ => rfl
      · first | exact flag_ne (by decide) f9 | exact fun _ => rfl
      · first | exact flag_ne (by decide) f10 | exact fun _ => rfl
      · first | exact flag_ne (by decide) f11 | exact fun _ => rfl
      · intro _; first | rfl | (trace_state; fail)
      · first | exact flag_ne (by decide) f17 | exact fun _ => rfl
      · intro h; rw [getD_set_ne false (by decide)] at h; exact (getD_no h0 (hC.step (j := 16) (k := 12) (hC.step (j := 18) (k := 16) h (by kernel_rfl)) (by kernel_rfl))).elim
      · first | exact flag_ne (by decide) f19 | exact fun _ => rfl
    · refine StepAt.mk (o := { dst := some 17, op := Op.fieldAddr 42 (Operand.tmp 1) 1, type := 0, pos := _, after := #[{ on := 12, ground := Ground.guard }], guard := some (12, true) }) (ws := [12]) rfl (by kernel_rfl) ?_
      rintro L b v hC h0 hA ⟨u2, u3, u4, u5, u6, u7, u8, u9, u10, u11, u12, u13, u14, u15, u16, u17, u18, u19, u20, u21, rfl, hHeld, f0, f1, f2, f3, f4, f5, f6, f7, f8, f9, f10, f11, f12, f17, f18, f19⟩ K hK
      have g12 := f12 (hA 12 (by simp))
      obtain rfl := g12
      rw [if_neg (Bool.eq_false_iff.1 (by kernel_rfl))]
      try simp only [Act.put, List.setIfInBounds_toArray, List.set_cons_zero, List.set_cons_succ]
      refine hK.out _ _ ⟨_, _, _, _, _, _, _, _, _, _, _, _, _, _, _, _, _, _, _, _, rfl, ?_, ?_, ?_, ?_, ?_, ?_, ?_, ?_, ?_, ?_, ?_, ?_, ?_, ?_, ?_, ?_, ?_⟩
      · first | exact hHeld | exact hHeld.trans (hb.mono hHeld.size) | (trace_state; fail)
      · first | exact flag_ne (by decide) f0 | exact fun _ => rfl
      · first | exact flag_ne (by decide) f1 | exact fun _ => rfl
      · intro h h7; rw [getD_set_ne false (by decide)] at h; rw [getD_set_ne true (by decide)] at h7; have := f2 h h7; first | exact this | exact owns_below this hb | (trace_state; fail)
      · first | exact flag_ne (by decide) f3 | exact fun _ => rfl
      · first | exact flag_ne (by decide) f4 | exact fun _ => rfl
      · intro h; rw [getD_set_ne false (by decide)] at h; have := f5 h; obtain ⟨q, e1, e2⟩ := this; exact (by first | exact ⟨q, e1, e2⟩ | exact ⟨q, e1, owns_below e2 hb⟩ | exact ⟨q, e1, owns_grown e2 hG (fun g hg => owns_type e2 g2 (by decide) hg)⟩ | (trace_state; fail))
      · intro h h7; rw [getD_set_ne false (by decide)] at h; rw [getD_set_ne true (by decide)] at h7; have := f6 h h7; first | exact this | exact owns_below this hb | (trace_state; fail)
      · intro h; rw [getD_set_ne false (by decide)] at h; have := f7 h; first | exact this | exact owns_below this hb | (trace_state; fail)
      · first | exact flag_ne (by decide) f8 | exact fun _ => rfl
      · first | exact flag_ne (by decide) f9 | exact fun _ => rfl
      · first | exact flag_ne (by decide) f10 | exact fun _ => rfl
      · first | exact flag_ne (by decide) f11 | exact fun _ => rfl
      · first | exact flag_ne (by decide) f12 | exact fun _ => rfl
      · first | exact flag_ne (by decide) f17 | exact fun _ => rfl
      · intro h; rw [getD_set_ne false (by decide)] at h; exact (getD_no h0 (hC.step (j := 14) (k := 13) (hC.step (j := 15) (k := 14) (hC.step (j := 16) (k := 15) (hC.step (j := 18) (k := 16) h (by kernel_rfl)) (by kernel_rfl)) (by kernel_rfl)) (by kernel_rfl))).elim
      · first | exact flag_ne (by decide) f19 | exact fun _ => rfl
    · refine StepAt.mk (o := { dst := some 18, op := Op.load 3 (Operand.tmp 17), type := 3, pos := _, after := #[{ on := 13, ground := Ground.data }, { on := 12, ground := Ground.guard }], guard := some (12, true) }) (ws := [13, 12]) rfl (by kernel_rfl) ?_
      rintro L b v hC h0 hA ⟨u2, u3, u4, u5, u6, u7, u8, u9, u10, u11, u12, u13, u14, u15, u16, u17, u18, u19, u20, u21, rfl, hHeld, f0, f1, f2, f3, f4, f5, f6, f7, f8, f9, f10, f11, f12, f17, f18, f19⟩ K hK
      have g12 := f12 (hA 12 (by simp))
      obtain rfl := g12
      rw [if_neg (Bool.eq_false_iff.1 (by kernel_rfl))]
      try simp only [Act.put, List.setIfInBounds_toArray, List.set_cons_zero, List.set_cons_succ]
      refine hK.out _ _ ⟨_, _, _, _, _, _, _, _, _, _, _, _, _, _, _, _, _, _, _, _, rfl, ?_, ?_, ?_, ?_, ?_, ?_, ?_, ?_, ?_, ?_, ?_, ?_, ?_, ?_, ?_, ?_, ?_⟩
      · first | exact hHeld | exact hHeld.trans (hb.mono hHeld.size) | (trace_state; fail)
      · first | exact flag_ne (by decide) f0 | exact fun _ => rfl
      · first | exact flag_ne (by decide) f1 | exact fun _ => rfl
      · intro h h7; rw [getD_set_ne false (by decide)] at h; rw [getD_set_ne true (by decide)] at h7; have := f2 h h7; first | exact this | exact owns_below this hb | (trace_state; fail)
      · first | exact flag_ne (by decide) f3 | exact fun _ => rfl
      · first | exact flag_ne (by decide) f4 | exact fun _ => rfl
      · intro h; rw [getD_set_ne false (by decide)] at h; have := f5 h; obtain ⟨q, e1, e2⟩ := this; exact (by first | exact ⟨q, e1, e2⟩ | exact ⟨q, e1, owns_below e2 hb⟩ | exact ⟨q, e1, owns_grown e2 hG (fun g hg => owns_type e2 g2 (by decide) hg)⟩ | (trace_state; fail))
      · intro h h7; rw [getD_set_ne false (by decide)] at h; rw [getD_set_ne true (by decide)] at h7; have := f6 h h7; first | exact this | exact owns_below this hb | (trace_state; fail)
      · intro h; rw [getD_set_ne false (by decide)] at h; have := f7 h; first | exact this | exact owns_below this hb | (trace_state; fail)
      · first | exact flag_ne (by decide) f8 | exact fun _ => rfl
      · first | exact flag_ne (by decide) f9 | exact fun _ => rfl
      · first | exact flag_ne (by decide) f10 | exact fun _ => rfl
      · first | exact flag_ne (by decide) f11 | exact fun _ => rfl
      · first | exact flag_ne (by decide) f12 | exact fun _ => rfl
      · first | exact flag_ne (by decide) f17 | exact fun _ => rfl
      · intro h; rw [getD_set_ne false (by decide)] at h; exact (getD_no h0 (hC.step (j := 15) (k := 14) (hC.step (j := 16) (k := 15) (hC.step (j := 18) (k := 16) h (by kernel_rfl)) (by kernel_rfl)) (by kernel_rfl))).elim
      · first | exact flag_ne (by decide) f19 | exact fun _ => rfl
    · refine StepAt.mk (o := { dst := some 19, op := Op.buildSlice 75 1 #[(0, Operand.tmp 18)], type := 75, pos := _, after := #[{ on := 14, ground := Ground.data }, { on := 12, ground := Ground.guard }], guard := some (12, true) }) (ws := [14, 12]) rfl (by kernel_rfl) ?_
      rintro L b v hC h0 hA ⟨u2, u3, u4, u5, u6, u7, u8, u9, u10, u11, u12, u13, u14, u15, u16, u17, u18, u19, u20, u21, rfl, hHeld, f0, f1, f2, f3, f4, f5, f6, f7, f8, f9, f10, f11, f12, f17, f18, f19⟩ K hK
      have g12 := f12 (hA 12 (by simp))
      obtain rfl := g12
      rw [if_neg (Bool.eq_false_iff.1 (by kernel_rfl))]
      try simp only [Act.put, List.setIfInBounds_toArray, List.set_cons_zero, List.set_cons_succ]
      refine hK.out _ _ ⟨_, _, _, _, _, _, _, _, _, _, _, _, _, _, _, _, _, _, _, _, rfl, ?_, ?_, ?_, ?_, ?_, ?_, ?_, ?_, ?_, ?_, ?_, ?_, ?_, ?_, ?_, ?_, ?_⟩
      · first | exact hHeld | exact hHeld.trans (hb.mono hHeld.size) | (trace_state; fail)
      · first | exact flag_ne (by decide) f0 | exact fun _ => rfl
      · first | exact flag_ne (by decide) f1 | exact fun _ => rfl
      · intro h h7; rw [getD_set_ne false (by decide)] at h; rw [getD_set_ne true (by decide)] at h7; have := f2 h h7; first | exact this | exact owns_below this hb | (trace_state; fail)
      · first | exact flag_ne (by decide) f3 | exact fun _ => rfl
      · first | exact flag_ne (by decide) f4 | exact fun _ => rfl
      · intro h; rw [getD_set_ne false (by decide)] at h; have := f5 h; obtain ⟨q, e1, e2⟩ := this; exact (by first | exact ⟨q, e1, e2⟩ | exact ⟨q, e1, owns_below e2 hb⟩ | exact ⟨q, e1, owns_grown e2 hG (fun g hg => owns_type e2 g2 (by decide) hg)⟩ | (trace_state; fail))
      · intro h h7; rw [getD_set_ne false (by decide)] at h; rw [getD_set_ne true (by decide)] at h7; have := f6 h h7; first | exact this | exact owns_below this hb | (trace_state; fail)
      · intro h; rw [getD_set_ne false (by decide)] at h; have := f7 h; first | exact this | exact owns_below this hb | (trace_state; fail)
      · first | exact flag_ne (by decide) f8 | exact fun _ => rfl
      · first | exact flag_ne (by decide) f9 | exact fun _ => rfl
      · first | exact flag_ne (by decide) f10 | exact fun _ => rfl
      · first | exact flag_ne (by decide) f11 | exact fun _ => rfl
      · first | exact flag_ne (by decide) f12 | exact fun _ => rfl
      · first | exact flag_ne (by decide) f17 | exact fun _ => rfl
      · intro h; rw [getD_set_ne false (by decide)] at h; exact (getD_no h0 (hC.step (j := 16) (k := 15) (hC.step (j := 18) (k := 16) h (by kernel_rfl)) (by kernel_rfl))).elim
      · first | exact flag_ne (by decide) f19 | exact fun _ => rfl
    · refine StepAt.mk (o := { dst := some 20, op := Op.call { callee := Callee.value (Operand.func 26), args := #[Operand.tmp 19], argTypes := #[75] }, type := 4, pos := _, after := #[{ on := 15, ground := Ground.data }, { on := 12, ground := Ground.chain }, { on := 12, ground := Ground.guard }], guard := some (12, true) }) (ws := [15, 12, 12]) rfl (by kernel_rfl) ?_
      rintro L b v hC h0 hA ⟨u2, u3, u4, u5, u6, u7, u8, u9, u10, u11, u12, u13, u14, u15, u16, u17, u18, u19, u20, u21, rfl, hHeld, f0, f1, f2, f3, f4, f5, f6, f7, f8, f9, f10, f11, f12, f17, f18, f19⟩ K hK
      have g12 := f12 (hA 12 (by simp))
      obtain rfl := g12
      rw [if_neg (Bool.eq_false_iff.1 (by kernel_rfl))]
      try simp only [Act.put, List.setIfInBounds_toArray, List.set_cons_zero, List.set_cons_succ]
      refine hK.out _ _ ⟨_, _, _, _, _, _, _, _, _, _, _, _, _, _, _, _, _, _, _, _, rfl, ?_, ?_, ?_, ?_, ?_, ?_, ?_, ?_, ?_, ?_, ?_, ?_, ?_, ?_, ?_, ?_, ?_⟩
      · first | exact hHeld | exact hHeld.trans (hb.mono hHeld.size) | (trace_state; fail)
      · first | exact flag_ne (by decide) f0 | exact fun _ => rfl
      · first | exact flag_ne (by decide) f1 | exact fun _ => rfl
      · intro h h7; rw [getD_set_ne false (by decide)] at h; rw [getD_set_ne true (by decide)] at h7; have := f2 h h7; first | exact this | exact owns_below this hb | (trace_state; fail)
      · first | exact flag_ne (by decide) f3 | exact fun _ => rfl
      · first | exact flag_ne (by decide) f4 | exact fun _ => rfl
      · intro h; rw [getD_set_ne false (by decide)] at h; have := f5 h; obtain ⟨q, e1, e2⟩ := this; exact (by first | exact ⟨q, e1, e2⟩ | exact ⟨q, e1, owns_below e2 hb⟩ | exact ⟨q, e1, owns_grown e2 hG (fun g hg => owns_type e2 g2 (by decide) hg)⟩ | (trace_state; fail))
      · intro h h7; rw [getD_set_ne false (by decide)] at h; rw [getD_set_ne true (by decide)] at h7; have := f6 h h7; first | exact this | exact owns_below this hb | (trace_state; fail)
      · intro h; rw [getD_set_ne false (by decide)] at h; have := f7 h; first | exact this | exact owns_below this hb | (trace_state; fail)
      · first | exact flag_ne (by decide) f8 | exact fun _ => rfl
      · first | exact flag_ne (by decide) f9 | exact fun _ => rfl
      · first | exact flag_ne (by decide) f10 | exact fun _ => rfl
      · first | exact flag_ne (by decide) f11 | exact fun _ => rfl
      · first | exact flag_ne (by decide) f12 | exact fun _ => rfl
      · first | exact flag_ne (by decide) f17 | exact fun _ => rfl
      · intro h; rw [getD_set_ne false (by decide)] at h; exact (getD_no h0 (hC.step (j := 18) (k := 16) h (by kernel_rfl))).elim
      · first | exact flag_ne (by decide) f19 | exact fun _ => rfl
    · refine StepAt.mk (o := { dst := some 21, op := Op.pick (Operand.tmp 16) (Operand.tmp 20) (Operand.const (Value.bool false)), type := 4, pos := _, after := #[{ on := 12, ground := Ground.data }, { on := 16, ground := Ground.data }, { on := 18, ground := Ground.gcOnly Departure.lateStores }], guard := none }) (ws := [12, 16]) rfl (by kernel_rfl) ?_
      rintro L b v hC h0 hA ⟨u2, u3, u4, u5, u6, u7, u8, u9, u10, u11, u12, u13, u14, u15, u16, u17, u18, u19, u20, u21, rfl, hHeld, f0, f1, f2, f3, f4, f5, f6, f7, f8, f9, f10, f11, f12, f17, f18, f19⟩ K hK
      have g12 := f12 (hA 12 (by simp))
      obtain rfl := g12
      rw [if_pos (by kernel_rfl)]
      have q0 := cellB hHeld C0 hz0
      have q1 := cellB hHeld C1 hz0
      go_simp
      try simp only [Act.put, List.setIfInBounds_toArray, List.set_cons_zero, List.set_cons_succ]
      refine hK.out _ _ ⟨_, _, _, _, _, _, _, _, _, _, _, _, _, _, _, _, _, _, _, _, rfl, ?_, ?_, ?_, ?_, ?_, ?_, ?_, ?_, ?_, ?_, ?_, ?_, ?_, ?_, ?_, ?_, ?_⟩
      · first | exact hHeld | exact hHeld.trans (hb.mono hHeld.size) | (trace_state; fail)
      · first | exact flag_ne (by decide) f0 | exact fun _ => rfl
      · first | exact flag_ne (by decide) f1 | exact fun _ => rfl
      · intro h h7; rw [getD_set_ne false (by decide)] at h; rw [getD_set_ne true (by decide)] at h7; have := f2 h h7; first | exact this | exact owns_below this hb | (trace_state; fail)
      · first | exact flag_ne (by decide) f3 | exact fun _ => rfl
      · first | exact flag_ne (by decide) f4 | exact fun _ => rfl
      · intro h; rw [getD_set_ne false (by decide)] at h; have := f5 h; obtain ⟨q, e1, e2⟩ := this; exact (by first | exact ⟨q, e1, e2⟩ | exact ⟨q, e1, owns_below e2 hb⟩ | exact ⟨q, e1, owns_grown e2 hG (fun g hg => owns_type e2 g2 (by decide) hg)⟩ | (trace_state; fail))
      · intro h h7; rw [getD_set_ne false (by decide)] at h; rw [getD_set_ne true (by decide)] at h7; have := f6 h h7; first | exact this | exact owns_below this hb | (trace_state; fail)
      · intro h; rw [getD_set_ne false (by decide)] at h; have := f7 h; first | exact this | exact owns_below this hb | (trace_state; fail)
      · first | exact flag_ne (by decide) f8 | exact fun _ => rfl
      · first | exact flag_ne (by decide) f9 | exact fun _ => rfl
      · first | exact flag_ne (by decide) f10 | exact fun _ => rfl
      · first | exact flag_ne (by decide) f11 | exact fun _ => rfl
      · first | exact flag_ne (by decide) f12 | exact fun _ => rfl
      · intro _; first | rfl | (trace_state; fail)
      · intro h; rw [getD_set_ne false (by decide)] at h; have := f18 h; first | exact this | exact owns_below this hb | (trace_state; fail)
      · first | exact flag_ne (by decide) f19 | exact fun _ => rfl
    · refine StepAt.mk (o := { dst := some 2, op := Op.assign (Operand.tmp 11), type := 23, pos := _, after := #[{ on := 7, ground := Ground.data }, { on := 16, ground := Ground.chain }, { on := 0, ground := Ground.phase }, { on := 1, ground := Ground.phase }, { on := 2, ground := Ground.phase }, { on := 3, ground := Ground.phase }, { on := 4, ground := Ground.phase }, { on := 5, ground := Ground.phase }, { on := 6, ground := Ground.phase }, { on := 7, ground := Ground.phase }, { on := 8, ground := Ground.textOnly Departure.lateStores }, { on := 9, ground := Ground.textOnly Departure.lateStores }, { on := 10, ground := Ground.textOnly Departure.lateStoresUnsure }, { on := 11, ground := Ground.textOnly Departure.lateStores }, { on := 12, ground := Ground.textOnly Departure.lateStores }, { on := 13, ground := Ground.textOnly Departure.lateStores }, { on := 14, ground := Ground.textOnly Departure.lateStores }, { on := 15, ground := Ground.textOnly Departure.lateStores }, { on := 16, ground := Ground.textOnly Departure.lateStoresUnsure }, { on := 17, ground := Ground.textOnly Departure.lateStores }], guard := none }) (ws := [7, 16, 0, 1, 2, 3, 4, 5, 6, 7]) rfl (by kernel_rfl) ?_
      rintro L b v hC h0 hA ⟨u2, u3, u4, u5, u6, u7, u8, u9, u10, u11, u12, u13, u14, u15, u16, u17, u18, u19, u20, u21, rfl, hHeld, f0, f1, f2, f3, f4, f5, f6, f7, f8, f9, f10, f11, f12, f17, f18, f19⟩ K hK
      have g7 := f7 (hA 7 (by simp))
      have g0 := f0 (hA 0 (by simp))
      obtain rfl := g0
      have g1 := f1 (hA 1 (by simp))
      obtain rfl := g1
      have g2 := f2 (hA 2 (by simp))
      have g3 := f3 (hA 3 (by simp))
      obtain rfl := g3
      have g4 := f4 (hA 4 (by simp))
      obtain rfl := g4
      have g5 := f5 (hA 5 (by simp))
      obtain ⟨q9, rfl, H9⟩ := g5
      have g6 := f6 (hA 6 (by simp))
      rw [if_pos (by kernel_rfl)]
      have q0 := cellB hHeld C0 hz0
      have q1 := cellB hHeld C1 hz0
      go_simp
      try simp only [Act.put, List.setIfInBounds_toArray, List.set_cons_zero, List.set_cons_succ]
      refine hK.out _ _ ⟨_, _, _, _, _, _, _, _, _, _, _, _, _, _, _, _, _, _, _, _, rfl, ?_, ?_, ?_, ?_, ?_, ?_, ?_, ?_, ?_, ?_, ?_, ?_, ?_, ?_, ?_, ?_, ?_⟩
      · first | exact hHeld | exact hHeld.trans (hb.mono hHeld.size) | (trace_state; fail)
      · first | exact flag_ne (by decide) f0 | exact fun _ => rfl
      · first | exact flag_ne (by decide) f1 | exact fun _ => rfl
      · intro h h7; rw [getD_set_ne false (by decide)] at h; rw [getD_set_ne true (by decide)] at h7; have := f2 h h7; first | exact this | exact owns_below this hb | (trace_state; fail)
      · first | exact flag_ne (by decide) f3 | exact fun _ => rfl
      · first | exact flag_ne (by decide) f4 | exact fun _ => rfl
      · intro h; rw [getD_set_ne false (by decide)] at h; have := f5 h; obtain ⟨q, e1, e2⟩ := this; exact (by first | exact ⟨q, e1, e2⟩ | exact ⟨q, e1, owns_below e2 hb⟩ | exact ⟨q, e1, owns_grown e2 hG (fun g hg => owns_type e2 g2 (by decide) hg)⟩ | (trace_state; fail))
      · intro h h7; rw [getD_set_ne false (by decide)] at h; rw [getD_set_ne true (by decide)] at h7; have := f6 h h7; first | exact this | exact owns_below this hb | (trace_state; fail)
      · intro h; rw [getD_set_ne false (by decide)] at h; have := f7 h; first | exact this | exact owns_below this hb | (trace_state; fail)
      · first | exact flag_ne (by decide) f8 | exact fun _ => rfl
      · first | exact flag_ne (by decide) f9 | exact fun _ => rfl
      · first | exact flag_ne (by decide) f10 | exact fun _ => rfl
      · first | exact flag_ne (by decide) f11 | exact fun _ => rfl
      · first | exact flag_ne (by decide) f12 | exact fun _ => rfl
      · first | exact flag_ne (by decide) f17 | exact fun _ => rfl
      · intro _; first | exact g7 | (trace_state; fail)
      · first | exact flag_ne (by decide) f19 | exact fun _ => rfl
    · refine StepAt.mk (o := { dst := some 3, op := Op.assign (Operand.tmp 21), type := 4, pos := _, after := #[{ on := 17, ground := Ground.data }, { on := 18, ground := Ground.chain }, { on := 0, ground := Ground.phase }, { on := 1, ground := Ground.phase }, { on := 2, ground := Ground.phase }, { on := 3, ground := Ground.phase }, { on := 4, ground := Ground.phase }, { on := 5, ground := Ground.phase }, { on := 6, ground := Ground.phase }, { on := 7, ground := Ground.phase }, { on := 8, ground := Ground.phase }, { on := 9, ground := Ground.phase }, { on := 10, ground := Ground.phase }, { on := 11, ground := Ground.phase }, { on := 12, ground := Ground.phase }, { on := 13, ground := Ground.phase }, { on := 14, ground := Ground.phase }, { on := 15, ground := Ground.phase }, { on := 16, ground := Ground.phase }, { on := 17, ground := Ground.phase }, { on := 18, ground := Ground.phase }], guard := none }) (ws := [17, 18, 0, 1, 2, 3, 4, 5, 6, 7, 8, 9, 10, 11, 12, 13, 14, 15, 16, 17, 18]) rfl (by kernel_rfl) ?_
      rintro L b v hC h0 hA ⟨u2, u3, u4, u5, u6, u7, u8, u9, u10, u11, u12, u13, u14, u15, u16, u17, u18, u19, u20, u21, rfl, hHeld, f0, f1, f2, f3, f4, f5, f6, f7, f8, f9, f10, f11, f12, f17, f18, f19⟩ K hK
      have g17 := f17 (hA 17 (by simp))
      obtain rfl := g17
      have g18 := f18 (hA 18 (by simp))
      have g0 := f0 (hA 0 (by simp))
      obtain rfl := g0
      have g1 := f1 (hA 1 (by simp))
      obtain rfl := g1
      have g2 := f2 (hA 2 (by simp))
      have g3 := f3 (hA 3 (by simp))
      obtain rfl := g3
      have g4 := f4 (hA 4 (by simp))
      obtain rfl := g4
      have g5 := f5 (hA 5 (by simp))
      obtain ⟨q9, rfl, H9⟩ := g5
      have g6 := f6 (hA 6 (by simp))
      have g7 := f7 (hA 7 (by simp))
      have g8 := f8 (hA 8 (by simp))
      obtain rfl := g8
      have g9 := f9 (hA 9 (by simp))
      obtain rfl := g9
      have g10 := f10 (hA 10 (by simp))
      obtain rfl := g10
      have g11 := f11 (hA 11 (by simp))
      obtain rfl := g11
      have g12 := f12 (hA 12 (by simp))
      obtain rfl := g12
      rw [if_pos (by kernel_rfl)]
      have q0 := cellB hHeld C0 hz0
      have q1 := cellB hHeld C1 hz0
      go_simp
      try simp only [Act.put, List.setIfInBounds_toArray, List.set_cons_zero, List.set_cons_succ]
      refine hK.out _ _ ⟨_, _, _, _, _, _, _, _, _, _, _, _, _, _, _, _, _, _, _, _, rfl, ?_, ?_, ?_, ?_, ?_, ?_, ?_, ?_, ?_, ?_, ?_, ?_, ?_, ?_, ?_, ?_, ?_⟩
      · first | exact hHeld | exact hHeld.trans (hb.mono hHeld.size) | (trace_state; fail)
      · first | exact flag_ne (by decide) f0 | exact fun _ => rfl
      · first | exact flag_ne (by decide) f1 | exact fun _ => rfl
      · intro h h7; rw [getD_set_ne false (by decide)] at h; rw [getD_set_ne true (by decide)] at h7; have := f2 h h7; first | exact this | exact owns_below this hb | (trace_state; fail)
      · first | exact flag_ne (by decide) f3 | exact fun _ => rfl
      · first | exact flag_ne (by decide) f4 | exact fun _ => rfl
      · intro h; rw [getD_set_ne false (by decide)] at h; have := f5 h; obtain ⟨q, e1, e2⟩ := this; exact (by first | exact ⟨q, e1, e2⟩ | exact ⟨q, e1, owns_below e2 hb⟩ | exact ⟨q, e1, owns_grown e2 hG (fun g hg => owns_type e2 g2 (by decide) hg)⟩ | (trace_state; fail))
      · intro h h7; rw [getD_set_ne false (by decide)] at h; rw [getD_set_ne true (by decide)] at h7; have := f6 h h7; first | exact this | exact owns_below this hb | (trace_state; fail)
      · intro h; rw [getD_set_ne false (by decide)] at h; have := f7 h; first | exact this | exact owns_below this hb | (trace_state; fail)
      · first | exact flag_ne (by decide) f8 | exact fun _ => rfl
      · first | exact flag_ne (by decide) f9 | exact fun _ => rfl
      · first | exact flag_ne (by decide) f10 | exact fun _ => rfl
      · first | exact flag_ne (by decide) f11 | exact fun _ => rfl
      · first | exact flag_ne (by decide) f12 | exact fun _ => rfl
      · first | exact flag_ne (by decide) f17 | exact fun _ => rfl
      · intro h; rw [getD_set_ne false (by decide)] at h; have := f18 h; first | exact this | exact owns_below this hb | (trace_state; fail)
      · intro _; first | rfl | (trace_state; fail)
  rintro L b v hA ⟨u2, u3, u4, u5, u6, u7, u8, u9, u10, u11, u12, u13, u14, u15, u16, u17, u18, u19, u20, u21, rfl, hHeld, f0, f1, f2, f3, f4, f5, f6, f7, f8, f9, f10, f11, f12, f17, f18, f19⟩
  have g0 := f0 (hA 0 (by omega))
  clear f0
  obtain rfl := g0
  have g1 := f1 (hA 1 (by omega))
  clear f1
  obtain rfl := g1
  clear f2
  have g3 := f3 (hA 3 (by omega))
  clear f3
  obtain rfl := g3
  have g4 := f4 (hA 4 (by omega))
  clear f4
  obtain rfl := g4
  have g5 := f5 (hA 5 (by omega))
  clear f5
  obtain ⟨q9, rfl, H9⟩ := g5
  clear f6
  have g7 := f7 (hA 7 (by omega))
  clear f7
  have g8 := f8 (hA 8 (by omega))
  clear f8
  obtain rfl := g8
  have g9 := f9 (hA 9 (by omega))
  clear f9
  obtain rfl := g9
  have g10 := f10 (hA 10 (by omega))
  clear f10
  obtain rfl := g10
  have g11 := f11 (hA 11 (by omega))
  clear f11
  obtain rfl := g11
  have g12 := f12 (hA 12 (by omega))
  clear f12
  obtain rfl := g12
  have g17 := f17 (hA 17 (by omega))
  clear f17
  obtain rfl := g17
  have g18 := f18 (hA 18 (by omega))
  clear f18
  have g19 := f19 (hA 19 (by omega))
  clear f19
  obtain rfl := g19
  clear hA
  go_wp2_with fail
  go_returns
  have hz1 : W0.heap.size = w.heap.size + 1 := by rw [hW0]; simp
  exact ⟨_, rfl, Below.trans (by rw [hW0]; exact (Below.refl _ _).alloc (Nat.le_refl _) _) (hHeld.mono (by omega))⟩
end Go.Proofs.Ytdpcfcflcfjmjaa
