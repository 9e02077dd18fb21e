/- Layer 15: the walk of UnitPuts. -/
import Derived.Test.YtpeogdbfhfkngaaDoorUnPutR
import Derived.Test.YtpeogdbfhfkngaaDoorUnSlots
import Derived.Test.YtpeogdbfhfkngaaDoorUnSame
import Derived.Test.YtpeogdbfhfkngaaDoorUnAwake
import Derived.Test.YtpeogdbfhfkngaaDoorFew
import Derived.Deep.RegionHeld3
namespace Go.Proofs.YtpeogdbfhfkngaaDoor
open Go.RowKit
set_option linter.unusedSimpArgs false
set_option linter.unusedVariables false
set_option maxHeartbeats 8000000 in
theorem unitPuts_walk (a b c a' b' c' : Value) (x y : Un) (w : World) (h : UnAt w a b c x) (g : UnAt w a' b' c' y) (hT : STab w) :
    Calls Tryd.prog 3 #[.agg #[.string ⟨x.name.toArray⟩, a, .int .i64 x.result, b, c], .agg #[.string ⟨y.name.toArray⟩, a', .int .i64 y.result, b', c']] w fun e w' => e = .returned (.bool true) ∧ Below w.heap.size w w' := by
  have HA := Lib.hid (fun W (hb : Below w.heap.size w W) => law15_awake W (hT.below hb))
  have HF1 := Lib.hid (fun W (hb : Below w.heap.size w W) => law15_Few a b c x W (h.below hb))
  have HF2 := Lib.hid (fun W (hb : Below w.heap.size w W) => law15_Few a' b' c' y W (g.below hb))
  have HP1 := Lib.hid (fun (hf : fewU x = true) W (hb : Below w.heap.size w W) => unit_Put a b c x W (hT.below hb) (h.below hb) (by have := (of_decide_eq_true hf : x.name.length ≤ 300 ∧ x.params.length ≤ 20 ∧ x.locals.length ≤ 1100 ∧ x.code.length ≤ 300); omega))
  have HP2 := Lib.hid (fun (hf : fewU x = true) W (hb : Below w.heap.size w W) => ref15_Put a b c x W (h.below hb) (by have := (of_decide_eq_true hf : x.name.length ≤ 300 ∧ x.params.length ≤ 20 ∧ x.locals.length ≤ 1100 ∧ x.code.length ≤ 300); omega))
  have HF := Lib.hid (fun W (hb : Below w.heap.size w W) => unit_Fits a b c x W (hT.below hb) (h.below hb))
  have HS1 := Lib.hid (fun (hf : fewU x = true) W (hb : Below w.heap.size w W) => unit_Slots a b c x W (h.below hb) hf)
  have HS2 := Lib.hid (fun (hf : fewU x = true) W (hb : Below w.heap.size w W) => ref15_Slots a b c x W (h.below hb) hf)
  have HE1 := Lib.hid (fun (hf : fewU x = true) W (hb : Below w.heap.size w W) => unit_Same a b c a' b' c' x y W (h.below hb) (g.below hb) (by have := (of_decide_eq_true hf : x.name.length ≤ 300 ∧ x.params.length ≤ 20 ∧ x.locals.length ≤ 1100 ∧ x.code.length ≤ 300); omega))
  have HE2 := Lib.hid (fun (hf : fewU x = true) W (hb : Below w.heap.size w W) => ref15_Same a b c a' b' c' x y W (h.below hb) (g.below hb) (by have := (of_decide_eq_true hf : x.name.length ≤ 300 ∧ x.params.length ≤ 20 ∧ x.locals.length ≤ 1100 ∧ x.code.length ≤ 300); omega))
  have HE3 := Lib.hid (fun (hf : fewU x = true) W (hb : Below w.heap.size w W) => unit_Same a b c a b c x x W (h.below hb) (h.below hb) (by have := (of_decide_eq_true hf : x.name.length ≤ 300 ∧ x.params.length ≤ 20 ∧ x.locals.length ≤ 1100 ∧ x.code.length ≤ 300); omega))
  rw [sameU_self] at HE3
  obtain ⟨W0, hW0⟩ : ∃ W0, W0 = (w.alloc (.cells #[.string ⟨x.name.toArray⟩, a, .int .i64 x.result, b, c] 25)).alloc (.cells #[.string ⟨y.name.toArray⟩, a', .int .i64 y.result, b', c'] 25) := ⟨_, rfl⟩
  obtain ⟨k1, k2, k3, k4⟩ := boxed2 w [.string ⟨x.name.toArray⟩, a, .int .i64 x.result, b, c] [.string ⟨y.name.toArray⟩, a', .int .i64 y.result, b', c'] 25 25 (W' := W0) (by rw [hW0]; exact Below.refl _ _)
  have z1 : w.heap.size < W0.heap.size := by omega
  have HW0 := Lib.hid hW0
  have K1 := Lib.hid k1
  have K2 := Lib.hid k2
  clear k1 k2 hW0 h g hT
  generalize (⟨x.name.toArray⟩ : ByteArray) = nm at *
  generalize (⟨y.name.toArray⟩ : ByteArray) = nm' at *
  generalize x.result = rs at *
  generalize y.result = rs' at *
  cases hf : fewU x
  · rw [hf] at HF1
    clear hf HP1 HP2 HF HS1 HS2 HE1 HE2 HE3
    go_enter Tryd.func3, Tryd.ntmps3
    go_wp2_with fail
    refine (HF1.out _ (by rw [← HW0.out]; exact k4)).mono ?_; rintro e w1 ⟨rfl, hb1⟩
    rw [← HW0.out] at hb1
    have hB1 := k4.trans (hb1.mono k4.size)
    go_wp2_with fail
    refine (HA.out _ hB1).mono ?_; rintro e w2 ⟨rfl, hb2⟩
    have hB2 := hB1.trans (hb2.mono hB1.size)
    go_wp2_with fail
    go_ret
    exact ⟨rfl, hB2⟩
  rw [hf] at HF1
  have HP1 := Lib.hid (HP1.out hf)
  have HP2 := Lib.hid (HP2.out hf)
  have HS1 := Lib.hid (HS1.out hf)
  have HS2 := Lib.hid (HS2.out hf)
  have HE1 := Lib.hid (HE1.out hf)
  have HE2 := Lib.hid (HE2.out hf)
  have HE3 := Lib.hid (HE3.out hf)
  clear hf
  cases hf : fewU y
  · rw [hf] at HF2
    clear hf HP1 HP2 HF HS1 HS2 HE1 HE2 HE3
    go_enter Tryd.func3, Tryd.ntmps3
    go_wp2_with fail
    refine (HF1.out _ (by rw [← HW0.out]; exact k4)).mono ?_; rintro e w1 ⟨rfl, hb1⟩
    rw [← HW0.out] at hb1
    have hB1 := k4.trans (hb1.mono k4.size)
    have b0 := (K2.out.keep k3 hb1) 0 _ rfl
    have b1 := (K2.out.keep k3 hb1) 1 _ rfl
    have b2 := (K2.out.keep k3 hb1) 2 _ rfl
    have b3 := (K2.out.keep k3 hb1) 3 _ rfl
    have b4 := (K2.out.keep k3 hb1) 4 _ rfl
    go_wp2_with fail
    refine (HF2.out _ hB1).mono ?_; rintro e w2 ⟨rfl, hb2⟩
    have hB2 := hB1.trans (hb2.mono hB1.size)
    clear b0 b1 b2 b3 b4
    go_wp2_with fail
    refine (HA.out _ hB2).mono ?_; rintro e w3 ⟨rfl, hb3⟩
    have hB3 := hB2.trans (hb3.mono hB2.size)
    go_wp2_with fail
    go_ret
    exact ⟨rfl, hB3⟩
  rw [hf] at HF2
  clear hf
  generalize putO x = PO at *
  generalize fitU x = ft at *
  generalize sameU x y = sm at *
  generalize slotsL x = SL at *
  have hxx : ∀ q : Bool, (q == q) = true := fun q => by cases q <;> rfl
  go_enter Tryd.func3, Tryd.ntmps3
  go_wp2_with fail
  refine (HF1.out _ (by rw [← HW0.out]; exact k4)).mono ?_; rintro e w1 ⟨rfl, hb1⟩
  rw [← HW0.out] at hb1
  have hB1 := k4.trans (hb1.mono k4.size)
  have b0 := (K2.out.keep k3 hb1) 0 _ rfl
  have b1 := (K2.out.keep k3 hb1) 1 _ rfl
  have b2 := (K2.out.keep k3 hb1) 2 _ rfl
  have b3 := (K2.out.keep k3 hb1) 3 _ rfl
  have b4 := (K2.out.keep k3 hb1) 4 _ rfl
  go_wp2_with fail
  refine (HF2.out _ hB1).mono ?_; rintro e w2 ⟨rfl, hb2⟩
  have hB2 := hB1.trans (hb2.mono hB1.size)
  have hb2 := hb1.trans (hb2.mono hb1.size)
  clear b0 b1 b2 b3 b4 HF1 HF2 HW0 hb1
  have a0 := (K1.out.keep z1 hb2) 0 _ rfl
  have a1 := (K1.out.keep z1 hb2) 1 _ rfl
  have a2 := (K1.out.keep z1 hb2) 2 _ rfl
  have a3 := (K1.out.keep z1 hb2) 3 _ rfl
  have a4 := (K1.out.keep z1 hb2) 4 _ rfl
  go_wp2_with fail
  refine (HP1.out _ hB2).mono ?_; rintro e w3 ⟨r5, rfl, hr5, hb3⟩
  have hB3 := hB2.trans (hb3.mono hB2.size)
  have hb3 := hb2.trans (hb3.mono hb2.size)
  have R5 := Lib.hid hr5
  clear a0 a1 a2 a3 a4 hr5 HP1
  have a0 := (K1.out.keep z1 hb3) 0 _ rfl
  have a1 := (K1.out.keep z1 hb3) 1 _ rfl
  have a2 := (K1.out.keep z1 hb3) 2 _ rfl
  have a3 := (K1.out.keep z1 hb3) 3 _ rfl
  have a4 := (K1.out.keep z1 hb3) 4 _ rfl
  go_wp2_with fail
  refine (HP2.out _ hB3).mono ?_; rintro e W5 ⟨r7, rfl, hr7, hb5⟩
  have hB5 := hB3.trans (hb5.mono hB3.size)
  have R5 := Lib.hid (R5.out.below hb5)
  have R7 := Lib.hid hr7
  have hb5 := hb3.trans (hb5.mono hb3.size)
  clear a0 a1 a2 a3 a4 hr7 HP2
  have a0 := (K1.out.keep z1 hb5) 0 _ rfl
  have a1 := (K1.out.keep z1 hb5) 1 _ rfl
  have a2 := (K1.out.keep z1 hb5) 2 _ rfl
  have a3 := (K1.out.keep z1 hb5) 3 _ rfl
  have a4 := (K1.out.keep z1 hb5) 4 _ rfl
  have b0 := (K2.out.keep k3 hb5) 0 _ rfl
  have b1 := (K2.out.keep k3 hb5) 1 _ rfl
  have b2 := (K2.out.keep k3 hb5) 2 _ rfl
  have b3 := (K2.out.keep k3 hb5) 3 _ rfl
  have b4 := (K2.out.keep k3 hb5) 4 _ rfl
  have y1 : w.heap.size < W5.heap.size := Nat.lt_of_lt_of_le z1 hb5.size
  have y2 : w.heap.size + 1 < W5.heap.size := Nat.lt_of_lt_of_le k3 hb5.size
  clear hb3 hb2 hB1 hB2 hB3 K1 K2 k3 k4 z1
  go_wp2_with fail
  refine wp_region_held_drew (S := (fun w' => Below W5.heap.size W5 w')) (by kernel_rfl) ?_ (fun hHeld => ?_)
  · (try dsimp only); first | assumption | exact Below.alloc hHeld hHeld.size _ | exact (Below.refl _ _).drew | exact Below.drew (Below.refl _ _) | exact Below_drewN _ _ _ | exact Below.refl _ _ | (trace_state; fail)
  refine wpAnyH_take (i := 0) (oi := { dst := some 28, op := Op.move (Operand.tmp 5), type := 28, pos := _, after := #[], guard := none }) (v := ?_) rfl (by kernel_rfl) (by kernel_rfl) (by kernel_rfl) (fun _ _ _ h => h) (Or.inl ⟨by rfl, ?_⟩) (by assumption) ?_
  rotate_left
  · intro wt hSw; (try dsimp only at hSw); have a0 := cellB hSw a0 y1; have a1 := cellB hSw a1 y1; have a2 := cellB hSw a2 y1; have a3 := cellB hSw a3 y1; have a4 := cellB hSw a4 y1; have b0 := cellB hSw b0 y2; have b1 := cellB hSw b1 y2; have b2 := cellB hSw b2 y2; have b3 := cellB hSw b3 y2; have b4 := cellB hSw b4 y2; first | (go_simp; done) | (go_simp; with_reducible rfl) | (trace_state; fail)
  try simp only [Act.put, List.setIfInBounds_toArray, List.set_cons_zero, List.set_cons_succ]
  refine wpAnyH_take (i := 1) (oi := { dst := some 29, op := Op.convert 28 9 (Operand.tmp 28), type := 9, pos := _, after := #[{ on := 0, ground := Ground.data }], guard := none }) (v := ?_) rfl (by kernel_rfl) (by kernel_rfl) (by kernel_rfl) (fun _ _ _ h => h) (Or.inl ⟨by rfl, ?_⟩) (by assumption) ?_
  rotate_left
  · intro wt hSw; (try dsimp only at hSw); have hcv := conv_row (P := Tryd.prog) (src := 28) (dst := 9) (e := 5) Tryd.underlying28 Tryd.underlying5 Tryd.underlying9 (R5.out.below hSw); first | (go_simp; done) | (go_simp; with_reducible rfl) | (trace_state; fail)
  try simp only [Act.put, List.setIfInBounds_toArray, List.set_cons_zero, List.set_cons_succ]
  refine wpAnyH_take (i := 2) (oi := { dst := some 30, op := Op.move (Operand.tmp 7), type := 28, pos := _, after := #[], guard := none }) (v := ?_) rfl (by kernel_rfl) (by kernel_rfl) (by kernel_rfl) (fun _ _ _ h => h) (Or.inl ⟨by rfl, ?_⟩) (by assumption) ?_
  rotate_left
  · intro wt hSw; (try dsimp only at hSw); have a0 := cellB hSw a0 y1; have a1 := cellB hSw a1 y1; have a2 := cellB hSw a2 y1; have a3 := cellB hSw a3 y1; have a4 := cellB hSw a4 y1; have b0 := cellB hSw b0 y2; have b1 := cellB hSw b1 y2; have b2 := cellB hSw b2 y2; have b3 := cellB hSw b3 y2; have b4 := cellB hSw b4 y2; first | (go_simp; done) | (go_simp; with_reducible rfl) | (trace_state; fail)
  try simp only [Act.put, List.setIfInBounds_toArray, List.set_cons_zero, List.set_cons_succ]
  refine wpAnyH_take (i := 3) (oi := { dst := some 31, op := Op.convert 28 9 (Operand.tmp 30), type := 9, pos := _, after := #[{ on := 2, ground := Ground.data }], guard := none }) (v := ?_) rfl (by kernel_rfl) (by kernel_rfl) (by kernel_rfl) (fun _ _ _ h => h) (Or.inl ⟨by rfl, ?_⟩) (by assumption) ?_
  rotate_left
  · intro wt hSw; (try dsimp only at hSw); have hcv := conv_row (P := Tryd.prog) (src := 28) (dst := 9) (e := 5) Tryd.underlying28 Tryd.underlying5 Tryd.underlying9 (R7.out.below hSw); first | (go_simp; done) | (go_simp; with_reducible rfl) | (trace_state; fail)
  try simp only [Act.put, List.setIfInBounds_toArray, List.set_cons_zero, List.set_cons_succ]
  refine wpAnyH_take (i := 4) (oi := { dst := some 32, op := Op.binOp BinOp.eql 9 (Operand.tmp 29) (Operand.tmp 31) 9, type := 4, pos := _, after := #[{ on := 1, ground := Ground.data }, { on := 3, ground := Ground.data }], guard := none }) (v := ?_) rfl (by kernel_rfl) (by kernel_rfl) (by kernel_rfl) (fun _ _ _ h => h) (Or.inl ⟨by rfl, ?_⟩) (by assumption) ?_
  rotate_left
  · intro wt hSw; (try dsimp only at hSw); have a0 := cellB hSw a0 y1; have a1 := cellB hSw a1 y1; have a2 := cellB hSw a2 y1; have a3 := cellB hSw a3 y1; have a4 := cellB hSw a4 y1; have b0 := cellB hSw b0 y2; have b1 := cellB hSw b1 y2; have b2 := cellB hSw b2 y2; have b3 := cellB hSw b3 y2; have b4 := cellB hSw b4 y2; first | (go_simp; done) | (go_simp; with_reducible rfl) | (trace_state; fail)
  try simp only [Act.put, List.setIfInBounds_toArray, List.set_cons_zero, List.set_cons_succ]
  refine wpAnyH_take (i := 5) (oi := { dst := some 33, op := Op.move (Operand.tmp 32), type := 4, pos := _, after := #[{ on := 4, ground := Ground.data }], guard := none }) (v := ?_) rfl (by kernel_rfl) (by kernel_rfl) (by kernel_rfl) (fun _ _ _ h => h) (Or.inl ⟨by rfl, ?_⟩) (by assumption) ?_
  rotate_left
  · intro wt hSw; (try dsimp only at hSw); have a0 := cellB hSw a0 y1; have a1 := cellB hSw a1 y1; have a2 := cellB hSw a2 y1; have a3 := cellB hSw a3 y1; have a4 := cellB hSw a4 y1; have b0 := cellB hSw b0 y2; have b1 := cellB hSw b1 y2; have b2 := cellB hSw b2 y2; have b3 := cellB hSw b3 y2; have b4 := cellB hSw b4 y2; first | (go_simp; done) | (go_simp; with_reducible rfl) | (trace_state; fail)
  try simp only [Act.put, List.setIfInBounds_toArray, List.set_cons_zero, List.set_cons_succ]
  refine wpAnyH_take (i := 6) (oi := { dst := some 34, op := Op.move (Operand.tmp 6), type := 4, pos := _, after := #[{ on := 5, ground := Ground.guard }], guard := some (5, true) }) (v := ?_) rfl (by kernel_rfl) (by kernel_rfl) (by kernel_rfl) (fun _ _ _ h => h) (Or.inl ⟨by rfl, ?_⟩) (by assumption) ?_
  rotate_left
  · intro wt hSw; (try dsimp only at hSw); have a0 := cellB hSw a0 y1; have a1 := cellB hSw a1 y1; have a2 := cellB hSw a2 y1; have a3 := cellB hSw a3 y1; have a4 := cellB hSw a4 y1; have b0 := cellB hSw b0 y2; have b1 := cellB hSw b1 y2; have b2 := cellB hSw b2 y2; have b3 := cellB hSw b3 y2; have b4 := cellB hSw b4 y2; first | (go_simp; done) | (go_simp; with_reducible rfl) | (trace_state; fail)
  try simp only [Act.put, List.setIfInBounds_toArray, List.set_cons_zero, List.set_cons_succ]
  refine wpAnyH_take (i := 7) (oi := { dst := some 35, op := Op.move (Operand.tmp 8), type := 4, pos := _, after := #[{ on := 5, ground := Ground.guard }], guard := some (5, true) }) (v := ?_) rfl (by kernel_rfl) (by kernel_rfl) (by kernel_rfl) (fun _ _ _ h => h) (Or.inl ⟨by rfl, ?_⟩) (by assumption) ?_
  rotate_left
  · intro wt hSw; (try dsimp only at hSw); have a0 := cellB hSw a0 y1; have a1 := cellB hSw a1 y1; have a2 := cellB hSw a2 y1; have a3 := cellB hSw a3 y1; have a4 := cellB hSw a4 y1; have b0 := cellB hSw b0 y2; have b1 := cellB hSw b1 y2; have b2 := cellB hSw b2 y2; have b3 := cellB hSw b3 y2; have b4 := cellB hSw b4 y2; first | (go_simp; done) | (go_simp; with_reducible rfl) | (trace_state; fail)
  try simp only [Act.put, List.setIfInBounds_toArray, List.set_cons_zero, List.set_cons_succ]
  refine wpAnyH_take (i := 8) (oi := { dst := some 36, op := Op.binOp BinOp.eql 4 (Operand.tmp 34) (Operand.tmp 35) 4, type := 4, pos := _, after := #[{ on := 6, ground := Ground.data }, { on := 7, ground := Ground.data }, { on := 5, ground := Ground.guard }], guard := some (5, true) }) (v := ?_) rfl (by kernel_rfl) (by kernel_rfl) (by kernel_rfl) (fun _ _ _ h => h) (Or.inl ⟨by rfl, ?_⟩) (by assumption) ?_
  rotate_left
  · intro wt hSw; (try dsimp only at hSw); have a0 := cellB hSw a0 y1; have a1 := cellB hSw a1 y1; have a2 := cellB hSw a2 y1; have a3 := cellB hSw a3 y1; have a4 := cellB hSw a4 y1; have b0 := cellB hSw b0 y2; have b1 := cellB hSw b1 y2; have b2 := cellB hSw b2 y2; have b3 := cellB hSw b3 y2; have b4 := cellB hSw b4 y2; first | (go_simp; done) | (go_simp; with_reducible rfl) | (trace_state; fail)
  try simp only [Act.put, List.setIfInBounds_toArray, List.set_cons_zero, List.set_cons_succ]
  refine wpAnyH_take (i := 9) (oi := { dst := some 37, op := Op.pick (Operand.tmp 33) (Operand.tmp 36) (Operand.const (Value.bool false)), type := 4, pos := _, after := #[{ on := 5, ground := Ground.data }, { on := 8, ground := Ground.data }], guard := none }) (v := ?_) rfl (by kernel_rfl) (by kernel_rfl) (by kernel_rfl) (fun _ _ _ h => h) (Or.inl ⟨by rfl, ?_⟩) (by assumption) ?_
  rotate_left
  · intro wt hSw; (try dsimp only at hSw); have a0 := cellB hSw a0 y1; have a1 := cellB hSw a1 y1; have a2 := cellB hSw a2 y1; have a3 := cellB hSw a3 y1; have a4 := cellB hSw a4 y1; have b0 := cellB hSw b0 y2; have b1 := cellB hSw b1 y2; have b2 := cellB hSw b2 y2; have b3 := cellB hSw b3 y2; have b4 := cellB hSw b4 y2; first | (go_simp; done) | (go_simp; with_reducible rfl) | (trace_state; fail)
  try simp only [Act.put, List.setIfInBounds_toArray, List.set_cons_zero, List.set_cons_succ]
  refine wpAnyH_take (i := 10) (oi := { dst := some 38, op := Op.move (Operand.tmp 37), type := 4, pos := _, after := #[{ on := 9, ground := Ground.data }, { on := 5, ground := Ground.chain }], guard := none }) (v := ?_) rfl (by kernel_rfl) (by kernel_rfl) (by kernel_rfl) (fun _ _ _ h => h) (Or.inl ⟨by rfl, ?_⟩) (by assumption) ?_
  rotate_left
  · intro wt hSw; (try dsimp only at hSw); have a0 := cellB hSw a0 y1; have a1 := cellB hSw a1 y1; have a2 := cellB hSw a2 y1; have a3 := cellB hSw a3 y1; have a4 := cellB hSw a4 y1; have b0 := cellB hSw b0 y2; have b1 := cellB hSw b1 y2; have b2 := cellB hSw b2 y2; have b3 := cellB hSw b3 y2; have b4 := cellB hSw b4 y2; first | (go_simp; done) | (go_simp; with_reducible rfl) | (trace_state; fail)
  try simp only [Act.put, List.setIfInBounds_toArray, List.set_cons_zero, List.set_cons_succ]
  refine wpAnyH_take (i := 11) (oi := { dst := some 39, op := Op.load 25 (Operand.tmp 2), type := 25, pos := _, after := #[{ on := 10, ground := Ground.guard }], guard := some (10, true) }) (v := ?_) rfl (by kernel_rfl) (by kernel_rfl) (by kernel_rfl) (fun _ _ _ h => h) (Or.inl ⟨by rfl, ?_⟩) (by assumption) ?_
  rotate_left
  · intro wt hSw; (try dsimp only at hSw); have a0 := cellB hSw a0 y1; have a1 := cellB hSw a1 y1; have a2 := cellB hSw a2 y1; have a3 := cellB hSw a3 y1; have a4 := cellB hSw a4 y1; have b0 := cellB hSw b0 y2; have b1 := cellB hSw b1 y2; have b2 := cellB hSw b2 y2; have b3 := cellB hSw b3 y2; have b4 := cellB hSw b4 y2; first | (go_simp; done) | (go_simp; with_reducible rfl) | (trace_state; fail)
  try simp only [Act.put, List.setIfInBounds_toArray, List.set_cons_zero, List.set_cons_succ]
  refine wpAnyH_take (i := 13) (oi := { dst := some 41, op := Op.move (Operand.tmp 8), type := 4, pos := _, after := #[{ on := 10, ground := Ground.guard }], guard := some (10, true) }) (v := ?_) rfl (by kernel_rfl) (by kernel_rfl) (by kernel_rfl) (fun _ _ _ h => h) (Or.inl ⟨by rfl, ?_⟩) (by assumption) ?_
  rotate_left
  · intro wt hSw; (try dsimp only at hSw); have a0 := cellB hSw a0 y1; have a1 := cellB hSw a1 y1; have a2 := cellB hSw a2 y1; have a3 := cellB hSw a3 y1; have a4 := cellB hSw a4 y1; have b0 := cellB hSw b0 y2; have b1 := cellB hSw b1 y2; have b2 := cellB hSw b2 y2; have b3 := cellB hSw b3 y2; have b4 := cellB hSw b4 y2; first | (go_simp; done) | (go_simp; with_reducible rfl) | (trace_state; fail)
  try simp only [Act.put, List.setIfInBounds_toArray, List.set_cons_zero, List.set_cons_succ]
  refine wpAnyH_ready (rs := [12]) (by kernel_rfl) (by simp) ?_
  refine AllReadyH.cons (o := { dst := some 40, op := Op.call { callee := Callee.value (Operand.func 10), args := #[Operand.tmp 39], argTypes := #[25] }, type := 4, pos := _, after := #[{ on := 11, ground := Ground.data }, { on := 10, ground := Ground.chain }, { on := 10, ground := Ground.guard }], guard := some (10, true) }) rfl (fun K hK => ?_) AllReadyH.nil
  go_simp
  refine (HF.out _ (hB5.trans (hHeld.mono hB5.size))).mono ?_; rintro e v1 ⟨rfl, hb⟩; have hHeld := hHeld.trans (hb.mono hHeld.size); clear hb
  go_wp2_with fail
  refine hK.out _ _ ?_ (fun hHeld => ?_)
  · (try dsimp only); first | assumption | exact Below.alloc hHeld hHeld.size _ | exact (Below.refl _ _).drew | exact Below.drew (Below.refl _ _) | exact Below_drewN _ _ _ | exact Below.refl _ _ | (trace_state; fail)
  clear hK K
  try simp only [Act.put, List.setIfInBounds_toArray, List.set_cons_zero, List.set_cons_succ]
  refine wpAnyH_take (i := 14) (oi := { dst := some 42, op := Op.binOp BinOp.eql 4 (Operand.tmp 40) (Operand.tmp 41) 4, type := 4, pos := _, after := #[{ on := 12, ground := Ground.data }, { on := 13, ground := Ground.data }, { on := 10, ground := Ground.guard }], guard := some (10, true) }) (v := ?_) rfl (by kernel_rfl) (by kernel_rfl) (by kernel_rfl) (fun _ _ _ h => h) (Or.inl ⟨by rfl, ?_⟩) (by assumption) ?_
  rotate_left
  · intro wt hSw; (try dsimp only at hSw); have a0 := cellB hSw a0 y1; have a1 := cellB hSw a1 y1; have a2 := cellB hSw a2 y1; have a3 := cellB hSw a3 y1; have a4 := cellB hSw a4 y1; have b0 := cellB hSw b0 y2; have b1 := cellB hSw b1 y2; have b2 := cellB hSw b2 y2; have b3 := cellB hSw b3 y2; have b4 := cellB hSw b4 y2; first | (go_simp; done) | (go_simp; with_reducible rfl) | (trace_state; fail)
  try simp only [Act.put, List.setIfInBounds_toArray, List.set_cons_zero, List.set_cons_succ]
  refine wpAnyH_take (i := 15) (oi := { dst := some 43, op := Op.pick (Operand.tmp 38) (Operand.tmp 42) (Operand.const (Value.bool false)), type := 4, pos := _, after := #[{ on := 10, ground := Ground.data }, { on := 14, ground := Ground.data }], guard := none }) (v := ?_) rfl (by kernel_rfl) (by kernel_rfl) (by kernel_rfl) (fun _ _ _ h => h) (Or.inl ⟨by rfl, ?_⟩) (by assumption) ?_
  rotate_left
  · intro wt hSw; (try dsimp only at hSw); have a0 := cellB hSw a0 y1; have a1 := cellB hSw a1 y1; have a2 := cellB hSw a2 y1; have a3 := cellB hSw a3 y1; have a4 := cellB hSw a4 y1; have b0 := cellB hSw b0 y2; have b1 := cellB hSw b1 y2; have b2 := cellB hSw b2 y2; have b3 := cellB hSw b3 y2; have b4 := cellB hSw b4 y2; first | (go_simp; done) | (go_simp; with_reducible rfl) | (trace_state; fail)
  try simp only [Act.put, List.setIfInBounds_toArray, List.set_cons_zero, List.set_cons_succ]
  refine wpAnyH_take (i := 16) (oi := { dst := some 44, op := Op.move (Operand.tmp 43), type := 4, pos := _, after := #[{ on := 15, ground := Ground.data }, { on := 12, ground := Ground.chain }], guard := none }) (v := ?_) rfl (by kernel_rfl) (by kernel_rfl) (by kernel_rfl) (fun _ _ _ h => h) (Or.inl ⟨by rfl, ?_⟩) (by assumption) ?_
  rotate_left
  · intro wt hSw; (try dsimp only at hSw); have a0 := cellB hSw a0 y1; have a1 := cellB hSw a1 y1; have a2 := cellB hSw a2 y1; have a3 := cellB hSw a3 y1; have a4 := cellB hSw a4 y1; have b0 := cellB hSw b0 y2; have b1 := cellB hSw b1 y2; have b2 := cellB hSw b2 y2; have b3 := cellB hSw b3 y2; have b4 := cellB hSw b4 y2; first | (go_simp; done) | (go_simp; with_reducible rfl) | (trace_state; fail)
  try simp only [Act.put, List.setIfInBounds_toArray, List.set_cons_zero, List.set_cons_succ]
  refine wpAnyH_take (i := 17) (oi := { dst := some 45, op := Op.load 25 (Operand.tmp 2), type := 25, pos := _, after := #[{ on := 16, ground := Ground.guard }], guard := some (16, true) }) (v := ?_) rfl (by kernel_rfl) (by kernel_rfl) (by kernel_rfl) (fun _ _ _ h => h) (Or.inl ⟨by rfl, ?_⟩) (by assumption) ?_
  rotate_left
  · intro wt hSw; (try dsimp only at hSw); have a0 := cellB hSw a0 y1; have a1 := cellB hSw a1 y1; have a2 := cellB hSw a2 y1; have a3 := cellB hSw a3 y1; have a4 := cellB hSw a4 y1; have b0 := cellB hSw b0 y2; have b1 := cellB hSw b1 y2; have b2 := cellB hSw b2 y2; have b3 := cellB hSw b3 y2; have b4 := cellB hSw b4 y2; first | (go_simp; done) | (go_simp; with_reducible rfl) | (trace_state; fail)
  try simp only [Act.put, List.setIfInBounds_toArray, List.set_cons_zero, List.set_cons_succ]
  refine wpAnyH_take (i := 19) (oi := { dst := some 47, op := Op.load 25 (Operand.tmp 2), type := 25, pos := _, after := #[{ on := 16, ground := Ground.guard }], guard := some (16, true) }) (v := ?_) rfl (by kernel_rfl) (by kernel_rfl) (by kernel_rfl) (fun _ _ _ h => h) (Or.inl ⟨by rfl, ?_⟩) (by assumption) ?_
  rotate_left
  · intro wt hSw; (try dsimp only at hSw); have a0 := cellB hSw a0 y1; have a1 := cellB hSw a1 y1; have a2 := cellB hSw a2 y1; have a3 := cellB hSw a3 y1; have a4 := cellB hSw a4 y1; have b0 := cellB hSw b0 y2; have b1 := cellB hSw b1 y2; have b2 := cellB hSw b2 y2; have b3 := cellB hSw b3 y2; have b4 := cellB hSw b4 y2; first | (go_simp; done) | (go_simp; with_reducible rfl) | (trace_state; fail)
  try simp only [Act.put, List.setIfInBounds_toArray, List.set_cons_zero, List.set_cons_succ]
  refine wpAnyH_ready (rs := [18]) (by kernel_rfl) (by simp) ?_
  refine AllReadyH.cons (o := { dst := some 46, op := Op.call { callee := Callee.value (Operand.func 12), args := #[Operand.tmp 45], argTypes := #[25] }, type := 22, pos := _, after := #[{ on := 17, ground := Ground.data }, { on := 16, ground := Ground.chain }, { on := 16, ground := Ground.guard }], guard := some (16, true) }) rfl (fun K hK => ?_) AllReadyH.nil
  go_simp
  refine (HS1.out _ (hB5.trans (hHeld.mono hB5.size))).mono ?_; rintro e v2 ⟨s1, rfl, hs1, hb⟩; have HS1' := Lib.hid hs1; have hHeld := hHeld.trans (hb.mono hHeld.size); clear hb hs1
  go_wp2_with fail
  refine hK.out _ _ ?_ (fun hHeld => ?_)
  · (try dsimp only); first | assumption | exact Below.alloc hHeld hHeld.size _ | exact (Below.refl _ _).drew | exact Below.drew (Below.refl _ _) | exact Below_drewN _ _ _ | exact Below.refl _ _ | (trace_state; fail)
  clear hK K
  try simp only [Act.put, List.setIfInBounds_toArray, List.set_cons_zero, List.set_cons_succ]
  refine wpAnyH_ready (rs := [20]) (by kernel_rfl) (by simp) ?_
  refine AllReadyH.cons (o := { dst := some 48, op := Op.call { callee := Callee.value (Operand.func 13), args := #[Operand.tmp 47], argTypes := #[25] }, type := 22, pos := _, after := #[{ on := 19, ground := Ground.data }, { on := 18, ground := Ground.chain }, { on := 16, ground := Ground.guard }], guard := some (16, true) }) rfl (fun K hK => ?_) AllReadyH.nil
  go_simp
  refine (HS2.out _ (hB5.trans (hHeld.mono hB5.size))).mono ?_; rintro e v3 ⟨s2, rfl, hs2, hb⟩; have HS1' := Lib.hid (HS1'.out.below intR_stable hb); have HS2' := Lib.hid hs2; have hHeld := hHeld.trans (hb.mono hHeld.size); clear hb hs2
  go_wp2_with fail
  refine hK.out _ _ ?_ (fun hHeld => ?_)
  · (try dsimp only); first | assumption | exact Below.alloc hHeld hHeld.size _ | exact (Below.refl _ _).drew | exact Below.drew (Below.refl _ _) | exact Below_drewN _ _ _ | exact Below.refl _ _ | (trace_state; fail)
  clear hK K
  try simp only [Act.put, List.setIfInBounds_toArray, List.set_cons_zero, List.set_cons_succ]
  refine wpAnyH_ready (rs := [21]) (by kernel_rfl) (by simp) ?_
  refine AllReadyH.cons (o := { dst := some 49, op := Op.call { callee := Callee.value (Operand.func 11), args := #[Operand.tmp 46, Operand.tmp 48], argTypes := #[22, 22] }, type := 4, pos := _, after := #[{ on := 18, ground := Ground.data }, { on := 20, ground := Ground.data }, { on := 20, ground := Ground.chain }, { on := 16, ground := Ground.guard }], guard := some (16, true) }) rfl (fun K hK => ?_) AllReadyH.nil
  go_simp
  refine (ref15_Ints _ _ _ _ _ HS1'.out HS2'.out).mono ?_; rintro e v4 ⟨rfl, hb⟩; rw [decide_eq_true rfl]; have hb := below_drew_of hb; have hHeld := hHeld.trans (hb.mono hHeld.size); clear hb
  go_wp2_with fail
  refine hK.out _ _ ?_ (fun hHeld => ?_)
  · (try dsimp only); first | assumption | exact Below.alloc hHeld hHeld.size _ | exact (Below.refl _ _).drew | exact Below.drew (Below.refl _ _) | exact Below_drewN _ _ _ | exact Below.refl _ _ | (trace_state; fail)
  clear hK K
  try simp only [Act.put, List.setIfInBounds_toArray, List.set_cons_zero, List.set_cons_succ]
  refine wpAnyH_take (i := 22) (oi := { dst := some 50, op := Op.pick (Operand.tmp 44) (Operand.tmp 49) (Operand.const (Value.bool false)), type := 4, pos := _, after := #[{ on := 16, ground := Ground.data }, { on := 21, ground := Ground.data }], guard := none }) (v := ?_) rfl (by kernel_rfl) (by kernel_rfl) (by kernel_rfl) (fun _ _ _ h => h) (Or.inl ⟨by rfl, ?_⟩) (by assumption) ?_
  rotate_left
  · intro wt hSw; (try dsimp only at hSw); have a0 := cellB hSw a0 y1; have a1 := cellB hSw a1 y1; have a2 := cellB hSw a2 y1; have a3 := cellB hSw a3 y1; have a4 := cellB hSw a4 y1; have b0 := cellB hSw b0 y2; have b1 := cellB hSw b1 y2; have b2 := cellB hSw b2 y2; have b3 := cellB hSw b3 y2; have b4 := cellB hSw b4 y2; first | (go_simp; done) | (go_simp; with_reducible rfl) | (trace_state; fail)
  try simp only [Act.put, List.setIfInBounds_toArray, List.set_cons_zero, List.set_cons_succ]
  refine wpAnyH_take (i := 23) (oi := { dst := some 51, op := Op.move (Operand.tmp 50), type := 4, pos := _, after := #[{ on := 22, ground := Ground.data }, { on := 21, ground := Ground.chain }], guard := none }) (v := ?_) rfl (by kernel_rfl) (by kernel_rfl) (by kernel_rfl) (fun _ _ _ h => h) (Or.inl ⟨by rfl, ?_⟩) (by assumption) ?_
  rotate_left
  · intro wt hSw; (try dsimp only at hSw); have a0 := cellB hSw a0 y1; have a1 := cellB hSw a1 y1; have a2 := cellB hSw a2 y1; have a3 := cellB hSw a3 y1; have a4 := cellB hSw a4 y1; have b0 := cellB hSw b0 y2; have b1 := cellB hSw b1 y2; have b2 := cellB hSw b2 y2; have b3 := cellB hSw b3 y2; have b4 := cellB hSw b4 y2; first | (go_simp; done) | (go_simp; with_reducible rfl) | (trace_state; fail)
  try simp only [Act.put, List.setIfInBounds_toArray, List.set_cons_zero, List.set_cons_succ]
  refine wpAnyH_take (i := 24) (oi := { dst := some 52, op := Op.load 25 (Operand.tmp 2), type := 25, pos := _, after := #[{ on := 23, ground := Ground.guard }], guard := some (23, true) }) (v := ?_) rfl (by kernel_rfl) (by kernel_rfl) (by kernel_rfl) (fun _ _ _ h => h) (Or.inl ⟨by rfl, ?_⟩) (by assumption) ?_
  rotate_left
  · intro wt hSw; (try dsimp only at hSw); have a0 := cellB hSw a0 y1; have a1 := cellB hSw a1 y1; have a2 := cellB hSw a2 y1; have a3 := cellB hSw a3 y1; have a4 := cellB hSw a4 y1; have b0 := cellB hSw b0 y2; have b1 := cellB hSw b1 y2; have b2 := cellB hSw b2 y2; have b3 := cellB hSw b3 y2; have b4 := cellB hSw b4 y2; first | (go_simp; done) | (go_simp; with_reducible rfl) | (trace_state; fail)
  try simp only [Act.put, List.setIfInBounds_toArray, List.set_cons_zero, List.set_cons_succ]
  refine wpAnyH_take (i := 25) (oi := { dst := some 53, op := Op.load 25 (Operand.tmp 3), type := 25, pos := _, after := #[{ on := 23, ground := Ground.guard }], guard := some (23, true) }) (v := ?_) rfl (by kernel_rfl) (by kernel_rfl) (by kernel_rfl) (fun _ _ _ h => h) (Or.inl ⟨by rfl, ?_⟩) (by assumption) ?_
  rotate_left
  · intro wt hSw; (try dsimp only at hSw); have a0 := cellB hSw a0 y1; have a1 := cellB hSw a1 y1; have a2 := cellB hSw a2 y1; have a3 := cellB hSw a3 y1; have a4 := cellB hSw a4 y1; have b0 := cellB hSw b0 y2; have b1 := cellB hSw b1 y2; have b2 := cellB hSw b2 y2; have b3 := cellB hSw b3 y2; have b4 := cellB hSw b4 y2; first | (go_simp; done) | (go_simp; with_reducible rfl) | (trace_state; fail)
  try simp only [Act.put, List.setIfInBounds_toArray, List.set_cons_zero, List.set_cons_succ]
  refine wpAnyH_take (i := 27) (oi := { dst := some 55, op := Op.load 25 (Operand.tmp 2), type := 25, pos := _, after := #[{ on := 23, ground := Ground.guard }], guard := some (23, true) }) (v := ?_) rfl (by kernel_rfl) (by kernel_rfl) (by kernel_rfl) (fun _ _ _ h => h) (Or.inl ⟨by rfl, ?_⟩) (by assumption) ?_
  rotate_left
  · intro wt hSw; (try dsimp only at hSw); have a0 := cellB hSw a0 y1; have a1 := cellB hSw a1 y1; have a2 := cellB hSw a2 y1; have a3 := cellB hSw a3 y1; have a4 := cellB hSw a4 y1; have b0 := cellB hSw b0 y2; have b1 := cellB hSw b1 y2; have b2 := cellB hSw b2 y2; have b3 := cellB hSw b3 y2; have b4 := cellB hSw b4 y2; first | (go_simp; done) | (go_simp; with_reducible rfl) | (trace_state; fail)
  try simp only [Act.put, List.setIfInBounds_toArray, List.set_cons_zero, List.set_cons_succ]
  refine wpAnyH_take (i := 28) (oi := { dst := some 56, op := Op.load 25 (Operand.tmp 3), type := 25, pos := _, after := #[{ on := 23, ground := Ground.guard }], guard := some (23, true) }) (v := ?_) rfl (by kernel_rfl) (by kernel_rfl) (by kernel_rfl) (fun _ _ _ h => h) (Or.inl ⟨by rfl, ?_⟩) (by assumption) ?_
  rotate_left
  · intro wt hSw; (try dsimp only at hSw); have a0 := cellB hSw a0 y1; have a1 := cellB hSw a1 y1; have a2 := cellB hSw a2 y1; have a3 := cellB hSw a3 y1; have a4 := cellB hSw a4 y1; have b0 := cellB hSw b0 y2; have b1 := cellB hSw b1 y2; have b2 := cellB hSw b2 y2; have b3 := cellB hSw b3 y2; have b4 := cellB hSw b4 y2; first | (go_simp; done) | (go_simp; with_reducible rfl) | (trace_state; fail)
  try simp only [Act.put, List.setIfInBounds_toArray, List.set_cons_zero, List.set_cons_succ]
  refine wpAnyH_ready (rs := [26]) (by kernel_rfl) (by simp) ?_
  refine AllReadyH.cons (o := { dst := some 54, op := Op.call { callee := Callee.value (Operand.func 14), args := #[Operand.tmp 52, Operand.tmp 53], argTypes := #[25, 25] }, type := 4, pos := _, after := #[{ on := 24, ground := Ground.data }, { on := 25, ground := Ground.data }, { on := 23, ground := Ground.chain }, { on := 23, ground := Ground.guard }], guard := some (23, true) }) rfl (fun K hK => ?_) AllReadyH.nil
  go_simp
  refine (HE1.out _ (hB5.trans (hHeld.mono hB5.size))).mono ?_; rintro e v5 ⟨rfl, hb⟩; have hHeld := hHeld.trans (hb.mono hHeld.size); clear hb
  go_wp2_with fail
  refine hK.out _ _ ?_ (fun hHeld => ?_)
  · (try dsimp only); first | assumption | exact Below.alloc hHeld hHeld.size _ | exact (Below.refl _ _).drew | exact Below.drew (Below.refl _ _) | exact Below_drewN _ _ _ | exact Below.refl _ _ | (trace_state; fail)
  clear hK K
  try simp only [Act.put, List.setIfInBounds_toArray, List.set_cons_zero, List.set_cons_succ]
  refine wpAnyH_ready (rs := [29]) (by kernel_rfl) (by simp) ?_
  refine AllReadyH.cons (o := { dst := some 57, op := Op.call { callee := Callee.value (Operand.func 15), args := #[Operand.tmp 55, Operand.tmp 56], argTypes := #[25, 25] }, type := 4, pos := _, after := #[{ on := 27, ground := Ground.data }, { on := 28, ground := Ground.data }, { on := 26, ground := Ground.chain }, { on := 23, ground := Ground.guard }], guard := some (23, true) }) rfl (fun K hK => ?_) AllReadyH.nil
  go_simp
  refine (HE2.out _ (hB5.trans (hHeld.mono hB5.size))).mono ?_; rintro e v6 ⟨rfl, hb⟩; have hHeld := hHeld.trans (hb.mono hHeld.size); clear hb
  go_wp2_with fail
  refine hK.out _ _ ?_ (fun hHeld => ?_)
  · (try dsimp only); first | assumption | exact Below.alloc hHeld hHeld.size _ | exact (Below.refl _ _).drew | exact Below.drew (Below.refl _ _) | exact Below_drewN _ _ _ | exact Below.refl _ _ | (trace_state; fail)
  clear hK K
  try simp only [Act.put, List.setIfInBounds_toArray, List.set_cons_zero, List.set_cons_succ]
  refine wpAnyH_take (i := 30) (oi := { dst := some 58, op := Op.binOp BinOp.eql 4 (Operand.tmp 54) (Operand.tmp 57) 4, type := 4, pos := _, after := #[{ on := 26, ground := Ground.data }, { on := 29, ground := Ground.data }, { on := 23, ground := Ground.guard }], guard := some (23, true) }) (v := ?_) rfl (by kernel_rfl) (by kernel_rfl) (by kernel_rfl) (fun _ _ _ h => h) (Or.inl ⟨by rfl, ?_⟩) (by assumption) ?_
  rotate_left
  · intro wt hSw; (try dsimp only at hSw); have a0 := cellB hSw a0 y1; have a1 := cellB hSw a1 y1; have a2 := cellB hSw a2 y1; have a3 := cellB hSw a3 y1; have a4 := cellB hSw a4 y1; have b0 := cellB hSw b0 y2; have b1 := cellB hSw b1 y2; have b2 := cellB hSw b2 y2; have b3 := cellB hSw b3 y2; have b4 := cellB hSw b4 y2; first | (go_simp; done) | (go_simp; with_reducible rfl) | (trace_state; fail)
  try simp only [Act.put, List.setIfInBounds_toArray, List.set_cons_zero, List.set_cons_succ]
  refine wpAnyH_take (i := 31) (oi := { dst := some 59, op := Op.pick (Operand.tmp 51) (Operand.tmp 58) (Operand.const (Value.bool false)), type := 4, pos := _, after := #[{ on := 23, ground := Ground.data }, { on := 30, ground := Ground.data }], guard := none }) (v := ?_) rfl (by kernel_rfl) (by kernel_rfl) (by kernel_rfl) (fun _ _ _ h => h) (Or.inl ⟨by rfl, ?_⟩) (by assumption) ?_
  rotate_left
  · intro wt hSw; (try dsimp only at hSw); have a0 := cellB hSw a0 y1; have a1 := cellB hSw a1 y1; have a2 := cellB hSw a2 y1; have a3 := cellB hSw a3 y1; have a4 := cellB hSw a4 y1; have b0 := cellB hSw b0 y2; have b1 := cellB hSw b1 y2; have b2 := cellB hSw b2 y2; have b3 := cellB hSw b3 y2; have b4 := cellB hSw b4 y2; first | (go_simp; done) | (go_simp; with_reducible rfl) | (trace_state; fail)
  try simp only [Act.put, List.setIfInBounds_toArray, List.set_cons_zero, List.set_cons_succ]
  refine wpAnyH_take (i := 32) (oi := { dst := some 60, op := Op.move (Operand.tmp 59), type := 4, pos := _, after := #[{ on := 31, ground := Ground.data }, { on := 29, ground := Ground.chain }], guard := none }) (v := ?_) rfl (by kernel_rfl) (by kernel_rfl) (by kernel_rfl) (fun _ _ _ h => h) (Or.inl ⟨by rfl, ?_⟩) (by assumption) ?_
  rotate_left
  · intro wt hSw; (try dsimp only at hSw); have a0 := cellB hSw a0 y1; have a1 := cellB hSw a1 y1; have a2 := cellB hSw a2 y1; have a3 := cellB hSw a3 y1; have a4 := cellB hSw a4 y1; have b0 := cellB hSw b0 y2; have b1 := cellB hSw b1 y2; have b2 := cellB hSw b2 y2; have b3 := cellB hSw b3 y2; have b4 := cellB hSw b4 y2; first | (go_simp; done) | (go_simp; with_reducible rfl) | (trace_state; fail)
  try simp only [Act.put, List.setIfInBounds_toArray, List.set_cons_zero, List.set_cons_succ]
  refine wpAnyH_take (i := 33) (oi := { dst := some 61, op := Op.load 25 (Operand.tmp 2), type := 25, pos := _, after := #[{ on := 32, ground := Ground.guard }], guard := some (32, true) }) (v := ?_) rfl (by kernel_rfl) (by kernel_rfl) (by kernel_rfl) (fun _ _ _ h => h) (Or.inl ⟨by rfl, ?_⟩) (by assumption) ?_
  rotate_left
  · intro wt hSw; (try dsimp only at hSw); have a0 := cellB hSw a0 y1; have a1 := cellB hSw a1 y1; have a2 := cellB hSw a2 y1; have a3 := cellB hSw a3 y1; have a4 := cellB hSw a4 y1; have b0 := cellB hSw b0 y2; have b1 := cellB hSw b1 y2; have b2 := cellB hSw b2 y2; have b3 := cellB hSw b3 y2; have b4 := cellB hSw b4 y2; first | (go_simp; done) | (go_simp; with_reducible rfl) | (trace_state; fail)
  try simp only [Act.put, List.setIfInBounds_toArray, List.set_cons_zero, List.set_cons_succ]
  refine wpAnyH_take (i := 34) (oi := { dst := some 62, op := Op.load 25 (Operand.tmp 2), type := 25, pos := _, after := #[{ on := 32, ground := Ground.guard }], guard := some (32, true) }) (v := ?_) rfl (by kernel_rfl) (by kernel_rfl) (by kernel_rfl) (fun _ _ _ h => h) (Or.inl ⟨by rfl, ?_⟩) (by assumption) ?_
  rotate_left
  · intro wt hSw; (try dsimp only at hSw); have a0 := cellB hSw a0 y1; have a1 := cellB hSw a1 y1; have a2 := cellB hSw a2 y1; have a3 := cellB hSw a3 y1; have a4 := cellB hSw a4 y1; have b0 := cellB hSw b0 y2; have b1 := cellB hSw b1 y2; have b2 := cellB hSw b2 y2; have b3 := cellB hSw b3 y2; have b4 := cellB hSw b4 y2; first | (go_simp; done) | (go_simp; with_reducible rfl) | (trace_state; fail)
  try simp only [Act.put, List.setIfInBounds_toArray, List.set_cons_zero, List.set_cons_succ]
  refine wpAnyH_ready (rs := [35]) (by kernel_rfl) (by simp) ?_
  refine AllReadyH.cons (o := { dst := some 63, op := Op.call { callee := Callee.value (Operand.func 14), args := #[Operand.tmp 61, Operand.tmp 62], argTypes := #[25, 25] }, type := 4, pos := _, after := #[{ on := 33, ground := Ground.data }, { on := 34, ground := Ground.data }, { on := 32, ground := Ground.chain }, { on := 32, ground := Ground.guard }], guard := some (32, true) }) rfl (fun K hK => ?_) AllReadyH.nil
  go_simp
  refine (HE3.out _ (hB5.trans (hHeld.mono hB5.size))).mono ?_; rintro e v7 ⟨rfl, hb⟩; have hHeld := hHeld.trans (hb.mono hHeld.size); clear hb
  go_wp2_with fail
  refine hK.out _ _ ?_ (fun hHeld => ?_)
  · (try dsimp only); first | assumption | exact Below.alloc hHeld hHeld.size _ | exact (Below.refl _ _).drew | exact Below.drew (Below.refl _ _) | exact Below_drewN _ _ _ | exact Below.refl _ _ | (trace_state; fail)
  clear hK K
  try simp only [Act.put, List.setIfInBounds_toArray, List.set_cons_zero, List.set_cons_succ]
  refine wpAnyH_take (i := 36) (oi := { dst := some 64, op := Op.pick (Operand.tmp 60) (Operand.tmp 63) (Operand.const (Value.bool false)), type := 4, pos := _, after := #[{ on := 32, ground := Ground.data }, { on := 35, ground := Ground.data }], guard := none }) (v := ?_) rfl (by kernel_rfl) (by kernel_rfl) (by kernel_rfl) (fun _ _ _ h => h) (Or.inl ⟨by rfl, ?_⟩) (by assumption) ?_
  rotate_left
  · intro wt hSw; (try dsimp only at hSw); have a0 := cellB hSw a0 y1; have a1 := cellB hSw a1 y1; have a2 := cellB hSw a2 y1; have a3 := cellB hSw a3 y1; have a4 := cellB hSw a4 y1; have b0 := cellB hSw b0 y2; have b1 := cellB hSw b1 y2; have b2 := cellB hSw b2 y2; have b3 := cellB hSw b3 y2; have b4 := cellB hSw b4 y2; first | (go_simp; done) | (go_simp; with_reducible rfl) | (trace_state; fail)
  try simp only [Act.put, List.setIfInBounds_toArray, List.set_cons_zero, List.set_cons_succ]
  refine wpAnyH_take (i := 37) (oi := { dst := some 65, op := Op.move (Operand.tmp 64), type := 4, pos := _, after := #[{ on := 36, ground := Ground.data }, { on := 35, ground := Ground.chain }], guard := none }) (v := ?_) rfl (by kernel_rfl) (by kernel_rfl) (by kernel_rfl) (fun _ _ _ h => h) (Or.inl ⟨by rfl, ?_⟩) (by assumption) ?_
  rotate_left
  · intro wt hSw; (try dsimp only at hSw); have a0 := cellB hSw a0 y1; have a1 := cellB hSw a1 y1; have a2 := cellB hSw a2 y1; have a3 := cellB hSw a3 y1; have a4 := cellB hSw a4 y1; have b0 := cellB hSw b0 y2; have b1 := cellB hSw b1 y2; have b2 := cellB hSw b2 y2; have b3 := cellB hSw b3 y2; have b4 := cellB hSw b4 y2; first | (go_simp; done) | (go_simp; with_reducible rfl) | (trace_state; fail)
  try simp only [Act.put, List.setIfInBounds_toArray, List.set_cons_zero, List.set_cons_succ]
  refine wpAnyH_ready (rs := [38]) (by kernel_rfl) (by simp) ?_
  refine AllReadyH.cons (o := { dst := some 66, op := Op.call { callee := Callee.value (Operand.func 7), args := #[], argTypes := #[] }, type := 4, pos := _, after := #[{ on := 37, ground := Ground.chain }, { on := 37, ground := Ground.guard }], guard := some (37, true) }) rfl (fun K hK => ?_) AllReadyH.nil
  go_simp
  refine (HA.out _ (hB5.trans (hHeld.mono hB5.size))).mono ?_; rintro e v8 ⟨rfl, hb⟩; have hHeld := hHeld.trans (hb.mono hHeld.size); clear hb
  go_wp2_with fail
  refine hK.out _ _ ?_ (fun hHeld => ?_)
  · (try dsimp only); first | assumption | exact Below.alloc hHeld hHeld.size _ | exact (Below.refl _ _).drew | exact Below.drew (Below.refl _ _) | exact Below_drewN _ _ _ | exact Below.refl _ _ | (trace_state; fail)
  clear hK K
  try simp only [Act.put, List.setIfInBounds_toArray, List.set_cons_zero, List.set_cons_succ]
  refine wpAnyH_take (i := 39) (oi := { dst := some 67, op := Op.pick (Operand.tmp 65) (Operand.tmp 66) (Operand.const (Value.bool false)), type := 4, pos := _, after := #[{ on := 37, ground := Ground.data }, { on := 38, ground := Ground.data }], guard := none }) (v := ?_) rfl (by kernel_rfl) (by kernel_rfl) (by kernel_rfl) (fun _ _ _ h => h) (Or.inl ⟨by rfl, ?_⟩) (by assumption) ?_
  rotate_left
  · intro wt hSw; (try dsimp only at hSw); have a0 := cellB hSw a0 y1; have a1 := cellB hSw a1 y1; have a2 := cellB hSw a2 y1; have a3 := cellB hSw a3 y1; have a4 := cellB hSw a4 y1; have b0 := cellB hSw b0 y2; have b1 := cellB hSw b1 y2; have b2 := cellB hSw b2 y2; have b3 := cellB hSw b3 y2; have b4 := cellB hSw b4 y2; first | (go_simp; done) | (go_simp; with_reducible rfl) | (trace_state; fail)
  try simp only [Act.put, List.setIfInBounds_toArray, List.set_cons_zero, List.set_cons_succ]
  refine wpAnyH_take (i := 40) (oi := { dst := some 4, op := Op.assign (Operand.tmp 67), type := 4, pos := _, after := #[{ on := 39, ground := Ground.data }, { on := 38, ground := Ground.chain }, { on := 0, ground := Ground.phase }, { on := 1, ground := Ground.phase }, { on := 2, ground := Ground.phase }, { on := 3, ground := Ground.phase }, { on := 4, ground := Ground.phase }, { on := 5, ground := Ground.phase }, { on := 6, ground := Ground.phase }, { on := 7, ground := Ground.phase }, { on := 8, ground := Ground.phase }, { on := 9, ground := Ground.phase }, { on := 10, ground := Ground.phase }, { on := 11, ground := Ground.phase }, { on := 12, ground := Ground.phase }, { on := 13, ground := Ground.phase }, { on := 14, ground := Ground.phase }, { on := 15, ground := Ground.phase }, { on := 16, ground := Ground.phase }, { on := 17, ground := Ground.phase }, { on := 18, ground := Ground.phase }, { on := 19, ground := Ground.phase }, { on := 20, ground := Ground.phase }, { on := 21, ground := Ground.phase }, { on := 22, ground := Ground.phase }, { on := 23, ground := Ground.phase }, { on := 24, ground := Ground.phase }, { on := 25, ground := Ground.phase }, { on := 26, ground := Ground.phase }, { on := 27, ground := Ground.phase }, { on := 28, ground := Ground.phase }, { on := 29, ground := Ground.phase }, { on := 30, ground := Ground.phase }, { on := 31, ground := Ground.phase }, { on := 32, ground := Ground.phase }, { on := 33, ground := Ground.phase }, { on := 34, ground := Ground.phase }, { on := 35, ground := Ground.phase }, { on := 36, ground := Ground.phase }, { on := 37, ground := Ground.phase }, { on := 38, ground := Ground.phase }, { on := 39, ground := Ground.phase }], guard := none }) (v := ?_) rfl (by kernel_rfl) (by kernel_rfl) (by kernel_rfl) (fun _ _ _ h => h) (Or.inl ⟨by rfl, ?_⟩) (by assumption) ?_
  rotate_left
  · intro wt hSw; (try dsimp only at hSw); have a0 := cellB hSw a0 y1; have a1 := cellB hSw a1 y1; have a2 := cellB hSw a2 y1; have a3 := cellB hSw a3 y1; have a4 := cellB hSw a4 y1; have b0 := cellB hSw b0 y2; have b1 := cellB hSw b1 y2; have b2 := cellB hSw b2 y2; have b3 := cellB hSw b3 y2; have b4 := cellB hSw b4 y2; first | (go_simp; done) | (go_simp; with_reducible rfl) | (trace_state; fail)
  try simp only [Act.put, List.setIfInBounds_toArray, List.set_cons_zero, List.set_cons_succ]
  refine wpAnyH_done (by kernel_rfl) ?_ _
  go_wp2_with fail
  go_ret
  exact ⟨rfl, hB5.trans (hHeld.mono hB5.size)⟩
end Go.Proofs.YtpeogdbfhfkngaaDoor
