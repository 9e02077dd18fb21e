/- Layer 19: the law StackTakes' walk. -/
import Derived.Test.YtjkblhopdjgkiaaDoorLawNineteen
import Derived.Test.YtjkblhopdjgkiaaDoorStackTL
import Derived.Test.YtjkblhopdjgkiaaDoorStackRefL
namespace Go.Proofs.YtjkblhopdjgkiaaDoor
open Go.RowKit
set_option linter.unusedSimpArgs false
set_option linter.unusedVariables false
set_option maxRecDepth 100000 in
set_option maxHeartbeats 8000000 in
theorem stackTakes_walk (pc pv pb pu : Value) (p : Pr) (u o a b : Int) (w : World) (h : PrAt w pc pv pb pu p) (hT : TabR w) (hB : BTab w) (hia : I64 a) (hib : I64 b) :
    Calls Tryd.prog 3 #[.agg #[pc, pv, pb, pu], .int .i64 u, .agg #[.int .i64 o, .int .i64 a, .int .i64 b]] w fun e w' => e = .returned (.bool true) ∧ Below w.heap.size w w' := by
  have cp := @cell_past
  have HF := Lib.hid (fun W (hb : Below w.heap.size w W) => law16_Few pc pv pb pu p W (h.below hb))
  have HA := Lib.hid (fun W (hb : Below w.heap.size w W) => law19_awake W (hT.below hb) (hB.below hb))
  have HTk := Lib.hid (fun (hf : fewP p = true) W (hb : Below w.heap.size w W) => stack_Takes pc pv pb pu p u o a b W (h.below hb) (hT.below hb) (hB.below hb) hf hia hib)
  have HLv := Lib.hid (fun (hf : fewP p = true) W (hb : Below w.heap.size w W) => stack_Leaves pc pv pb pu p u o a b W (h.below hb) (hT.below hb) (hB.below hb) hf hia hib)
  have HO := Lib.hid (fun (hf : fewP p = true) W (hb : Below w.heap.size w W) => ref18_One pc pv pb pu p u o a b W (h.below hb) hf)
  have HRT := Lib.hid (fun (hf : fewP p = true) (h1 : oneP p u o a b = 0) W (hb : Below w.heap.size w W) => ref19_Takes pc pv pb pu p u o a b W (h.below hb) hf h1 hia hib)
  have HRL := Lib.hid (fun (hf : fewP p = true) (h1 : oneP p u o a b = 0) W (hb : Below w.heap.size w W) => ref19_Leaves pc pv pb pu p u o a b W (h.below hb) hf h1 hia hib)
  obtain ⟨W0, hW0⟩ : ∃ W0, W0 = (w.alloc (.cells #[pc, pv, pb, pu] 27)).alloc (.cells #[.int .i64 o, .int .i64 a, .int .i64 b] 29) := ⟨_, rfl⟩
  obtain ⟨k1, k2, k3, k4⟩ := boxed2 w [pc, pv, pb, pu] [.int .i64 o, .int .i64 a, .int .i64 b] 27 29 (W' := W0) (by rw [hW0]; exact Below.refl _ _)
  have HW0 := Lib.hid hW0
  have K1 := Lib.hid k1
  have K2 := Lib.hid k2
  have z1 : w.heap.size < W0.heap.size := by omega
  clear k1 k2 h hT hB hW0 hia hib
  cases hf : fewP p
  · rw [hf] at HF
    clear hf HTk HLv HO HRT HRL
    go_enter Tryd.func3, Tryd.ntmps3
    go_wp2_with fail
    refine (HF.out _ (by (repeat' (first | (with_reducible exact Below.refl _ _) | (with_reducible assumption) | (with_reducible refine below_drewN ?_ _) | (with_reducible refine Below.alloc ?_ ?_ _) | (with_reducible refine Below.drew ?_) | (with_reducible refine Below.setCell ?_ ?_ _) | go_size)))).mono ?_; rintro e w1 ⟨rfl, hb1⟩
    rw [← HW0.out] at hb1
    have hB1 := k4.trans (hb1.mono k4.size)
    go_wp2_with fail
    refine (HA.out _ hB1).mono ?_; rintro e w2 ⟨rfl, hb2⟩
    go_wp2_with fail
    go_ret
    exact ⟨rfl, hB1.trans (hb2.mono hB1.size)⟩
  rw [hf] at HF
  have HTk := Lib.hid (HTk.out hf)
  have HLv := Lib.hid (HLv.out hf)
  have HO := Lib.hid (HO.out hf)
  have HRT := Lib.hid (HRT.out hf)
  have HRL := Lib.hid (HRL.out hf)
  have hlen := (tk_small (p := p) (x := unAt p u) (o := o) (a := a) (b := b) hf)
  clear hf
  by_cases h1 : oneP p u o a b = 0
  · have hTO : takesO p u o a b = takesL p (unAt p u) o a b := if_pos h1
    have hLO : leavesO p u o a b = leavesL p (unAt p u) o a b := if_pos h1
    rw [hTO] at HTk
    rw [hLO] at HLv
    rw [h1] at HO
    have HRT := Lib.hid (HRT.out h1)
    have HRL := Lib.hid (HRL.out h1)
    clear hTO hLO h1
    generalize takesL p (unAt p u) o a b = tk at *
    generalize leavesL p (unAt p u) o a b = lv at *
    obtain ⟨n1, hn1⟩ : ∃ n, tk.length = n := ⟨_, rfl⟩
    obtain ⟨n2, hn2⟩ : ∃ n, lv.length = n := ⟨_, rfl⟩
    have Hn := Lib.hid (show tk.length = n1 ∧ lv.length = n2 from ⟨hn1, hn2⟩)
    clear hn1 hn2 hlen
    go_enter Tryd.func3, Tryd.ntmps3
    go_wp2_with fail
    refine (HF.out _ (by (repeat' (first | (with_reducible exact Below.refl _ _) | (with_reducible assumption) | (with_reducible refine below_drewN ?_ _) | (with_reducible refine Below.alloc ?_ ?_ _) | (with_reducible refine Below.drew ?_) | (with_reducible refine Below.setCell ?_ ?_ _) | go_size)))).mono ?_; rintro e w1 ⟨rfl, hb1⟩
    rw [← HW0.out] at hb1
    have hB1 := k4.trans (hb1.mono k4.size)
    have y1 := Nat.lt_of_lt_of_le z1 hb1.size
    have y2 := Nat.lt_of_lt_of_le k3 hb1.size
    have e00 := (K1.out.keep z1 hb1) 0 _ rfl
    have e01 := (K1.out.keep z1 hb1) 1 _ rfl
    have e02 := (K1.out.keep z1 hb1) 2 _ rfl
    have e03 := (K1.out.keep z1 hb1) 3 _ rfl
    have e20 := (K2.out.keep k3 hb1) 0 _ rfl
    have e21 := (K2.out.keep k3 hb1) 1 _ rfl
    have e22 := (K2.out.keep k3 hb1) 2 _ rfl
    go_wp2_with fail
    refine wp_region_held_drew (S := (fun w' => Below w1.heap.size w1 w')) (by kernel_rfl) ?_ (fun hHeld => ?_)
    · (try dsimp only); first | assumption | exact Below.alloc hHeld hHeld.size _ | exact (Below.refl _ _).drew | exact Below.drew (Below.refl _ _) | exact Below_drewN _ _ _ | exact Below.refl _ _ | (trace_state; fail)
    refine wpAnyH_take (i := 0) (oi := { dst := some 13, op := Op.load 27 (Operand.tmp 3), type := 27, pos := _, after := #[], guard := none }) (v := ?_) rfl (by kernel_rfl) (by kernel_rfl) (by kernel_rfl) (fun _ _ _ h => h) (Or.inl ⟨by rfl, ?_⟩) (by assumption) ?_
    rotate_left
    · intro wt hSw; (try dsimp only at hSw); have e00 := cellB hSw e00 y1; have e01 := cellB hSw e01 y1; have e02 := cellB hSw e02 y1; have e03 := cellB hSw e03 y1; have e20 := cellB hSw e20 y2; have e21 := cellB hSw e21 y2; have e22 := cellB hSw e22 y2; first | (go_simp; done) | (go_simp; with_reducible rfl) | (trace_state; fail)
    try simp only [Act.put, List.setIfInBounds_toArray, List.set_cons_zero, List.set_cons_succ]
    refine wpAnyH_take (i := 1) (oi := { dst := some 14, op := Op.move (Operand.tmp 1), type := 3, pos := _, after := #[], guard := none }) (v := ?_) rfl (by kernel_rfl) (by kernel_rfl) (by kernel_rfl) (fun _ _ _ h => h) (Or.inl ⟨by rfl, ?_⟩) (by assumption) ?_
    rotate_left
    · intro wt hSw; (try dsimp only at hSw); have e00 := cellB hSw e00 y1; have e01 := cellB hSw e01 y1; have e02 := cellB hSw e02 y1; have e03 := cellB hSw e03 y1; have e20 := cellB hSw e20 y2; have e21 := cellB hSw e21 y2; have e22 := cellB hSw e22 y2; first | (go_simp; done) | (go_simp; with_reducible rfl) | (trace_state; fail)
    try simp only [Act.put, List.setIfInBounds_toArray, List.set_cons_zero, List.set_cons_succ]
    refine wpAnyH_take (i := 2) (oi := { dst := some 15, op := Op.load 29 (Operand.tmp 5), type := 29, pos := _, after := #[], guard := none }) (v := ?_) rfl (by kernel_rfl) (by kernel_rfl) (by kernel_rfl) (fun _ _ _ h => h) (Or.inl ⟨by rfl, ?_⟩) (by assumption) ?_
    rotate_left
    · intro wt hSw; (try dsimp only at hSw); have e00 := cellB hSw e00 y1; have e01 := cellB hSw e01 y1; have e02 := cellB hSw e02 y1; have e03 := cellB hSw e03 y1; have e20 := cellB hSw e20 y2; have e21 := cellB hSw e21 y2; have e22 := cellB hSw e22 y2; first | (go_simp; done) | (go_simp; with_reducible rfl) | (trace_state; fail)
    try simp only [Act.put, List.setIfInBounds_toArray, List.set_cons_zero, List.set_cons_succ]
    refine wpAnyH_take (i := 4) (oi := { dst := some 17, op := Op.load 27 (Operand.tmp 3), type := 27, pos := _, after := #[], guard := none }) (v := ?_) rfl (by kernel_rfl) (by kernel_rfl) (by kernel_rfl) (fun _ _ _ h => h) (Or.inl ⟨by rfl, ?_⟩) (by assumption) ?_
    rotate_left
    · intro wt hSw; (try dsimp only at hSw); have e00 := cellB hSw e00 y1; have e01 := cellB hSw e01 y1; have e02 := cellB hSw e02 y1; have e03 := cellB hSw e03 y1; have e20 := cellB hSw e20 y2; have e21 := cellB hSw e21 y2; have e22 := cellB hSw e22 y2; first | (go_simp; done) | (go_simp; with_reducible rfl) | (trace_state; fail)
    try simp only [Act.put, List.setIfInBounds_toArray, List.set_cons_zero, List.set_cons_succ]
    refine wpAnyH_take (i := 5) (oi := { dst := some 18, op := Op.move (Operand.tmp 1), type := 3, pos := _, after := #[], guard := none }) (v := ?_) rfl (by kernel_rfl) (by kernel_rfl) (by kernel_rfl) (fun _ _ _ h => h) (Or.inl ⟨by rfl, ?_⟩) (by assumption) ?_
    rotate_left
    · intro wt hSw; (try dsimp only at hSw); have e00 := cellB hSw e00 y1; have e01 := cellB hSw e01 y1; have e02 := cellB hSw e02 y1; have e03 := cellB hSw e03 y1; have e20 := cellB hSw e20 y2; have e21 := cellB hSw e21 y2; have e22 := cellB hSw e22 y2; first | (go_simp; done) | (go_simp; with_reducible rfl) | (trace_state; fail)
    try simp only [Act.put, List.setIfInBounds_toArray, List.set_cons_zero, List.set_cons_succ]
    refine wpAnyH_take (i := 6) (oi := { dst := some 19, op := Op.load 29 (Operand.tmp 5), type := 29, pos := _, after := #[], guard := none }) (v := ?_) rfl (by kernel_rfl) (by kernel_rfl) (by kernel_rfl) (fun _ _ _ h => h) (Or.inl ⟨by rfl, ?_⟩) (by assumption) ?_
    rotate_left
    · intro wt hSw; (try dsimp only at hSw); have e00 := cellB hSw e00 y1; have e01 := cellB hSw e01 y1; have e02 := cellB hSw e02 y1; have e03 := cellB hSw e03 y1; have e20 := cellB hSw e20 y2; have e21 := cellB hSw e21 y2; have e22 := cellB hSw e22 y2; first | (go_simp; done) | (go_simp; with_reducible rfl) | (trace_state; fail)
    try simp only [Act.put, List.setIfInBounds_toArray, List.set_cons_zero, List.set_cons_succ]
    refine wpAnyH_ready (rs := [3]) (by kernel_rfl) (by simp) ?_
    refine AllReadyH.cons (o := { dst := some 16, op := Op.call { callee := Callee.value (Operand.func 7), args := #[Operand.tmp 13, Operand.tmp 14, Operand.tmp 15], argTypes := #[27, 3, 29] }, type := 32, pos := _, after := #[{ on := 0, ground := Ground.data }, { on := 1, ground := Ground.data }, { on := 2, ground := Ground.data }], guard := none }) rfl (fun K hK => ?_) AllReadyH.nil
    go_simp
    refine (HTk.out _ (hB1.trans (hHeld.mono hB1.size))).mono ?_; rintro e w2 ⟨ra, rfl, hra, hb2⟩; obtain ⟨aa, ac, rfl⟩ := row_get hra; rw [Hn.out.1] at hra ⊢; have Hra := Lib.hid hra; have hHeld := hHeld.trans (hb2.mono hHeld.size); clear hb2 hra
    go_wp2_with fail
    refine hK.out _ _ ?_ (fun hHeld => ?_)
    · (try dsimp only); first | assumption | exact Below.alloc hHeld hHeld.size _ | exact (Below.refl _ _).drew | exact Below.drew (Below.refl _ _) | exact Below_drewN _ _ _ | exact Below.refl _ _ | (trace_state; fail)
    clear hK K
    try simp only [Act.put, List.setIfInBounds_toArray, List.set_cons_zero, List.set_cons_succ]
    refine wpAnyH_ready (rs := [7]) (by kernel_rfl) (by simp) ?_
    refine AllReadyH.cons (o := { dst := some 20, op := Op.call { callee := Callee.value (Operand.func 8), args := #[Operand.tmp 17, Operand.tmp 18, Operand.tmp 19], argTypes := #[27, 3, 29] }, type := 32, pos := _, after := #[{ on := 4, ground := Ground.data }, { on := 5, ground := Ground.data }, { on := 6, ground := Ground.data }, { on := 3, ground := Ground.chain }], guard := none }) rfl (fun K hK => ?_) AllReadyH.nil
    go_simp
    refine (HLv.out _ (hB1.trans (hHeld.mono hB1.size))).mono ?_; rintro e w3 ⟨rb, rfl, hrb, hb3⟩; have Hra := Lib.hid (Hra.out.below intR_stable hb3); obtain ⟨ba, bc, rfl⟩ := row_get hrb; rw [Hn.out.2] at hrb ⊢; have Hrb := Lib.hid hrb; have hHeld := hHeld.trans (hb3.mono hHeld.size); clear hb3 hrb
    go_wp2_with fail
    refine hK.out _ _ ?_ (fun hHeld => ?_)
    · (try dsimp only); first | assumption | exact Below.alloc hHeld hHeld.size _ | exact (Below.refl _ _).drew | exact Below.drew (Below.refl _ _) | exact Below_drewN _ _ _ | exact Below.refl _ _ | (trace_state; fail)
    clear hK K
    try simp only [Act.put, List.setIfInBounds_toArray, List.set_cons_zero, List.set_cons_succ]
    refine wpAnyH_take (i := 8) (oi := { dst := some 7, op := Op.assign (Operand.tmp 16), type := 32, pos := _, after := #[{ on := 3, ground := Ground.data }, { on := 7, ground := Ground.chain }, { on := 0, ground := Ground.phase }, { on := 1, ground := Ground.phase }, { on := 2, ground := Ground.phase }, { on := 3, ground := Ground.phase }, { on := 4, ground := Ground.textOnly Departure.lateStores }, { on := 5, ground := Ground.textOnly Departure.lateStores }, { on := 6, ground := Ground.textOnly Departure.lateStores }, { on := 7, ground := Ground.textOnly Departure.lateStoresUnsure }], guard := none }) (v := ?_) rfl (by kernel_rfl) (by kernel_rfl) (by kernel_rfl) (fun _ _ _ h => h) (Or.inl ⟨by rfl, ?_⟩) (by assumption) ?_
    rotate_left
    · intro wt hSw; (try dsimp only at hSw); have e00 := cellB hSw e00 y1; have e01 := cellB hSw e01 y1; have e02 := cellB hSw e02 y1; have e03 := cellB hSw e03 y1; have e20 := cellB hSw e20 y2; have e21 := cellB hSw e21 y2; have e22 := cellB hSw e22 y2; first | (go_simp; done) | (go_simp; with_reducible rfl) | (trace_state; fail)
    try simp only [Act.put, List.setIfInBounds_toArray, List.set_cons_zero, List.set_cons_succ]
    refine wpAnyH_take (i := 9) (oi := { dst := some 8, op := Op.assign (Operand.tmp 20), type := 32, pos := _, after := #[{ on := 7, ground := Ground.data }, { on := 8, ground := Ground.chain }, { on := 0, ground := Ground.phase }, { on := 1, ground := Ground.phase }, { on := 2, ground := Ground.phase }, { on := 3, ground := Ground.phase }, { on := 4, ground := Ground.phase }, { on := 5, ground := Ground.phase }, { on := 6, ground := Ground.phase }, { on := 7, ground := Ground.phase }, { on := 8, ground := Ground.phase }], guard := none }) (v := ?_) rfl (by kernel_rfl) (by kernel_rfl) (by kernel_rfl) (fun _ _ _ h => h) (Or.inl ⟨by rfl, ?_⟩) (by assumption) ?_
    rotate_left
    · intro wt hSw; (try dsimp only at hSw); have e00 := cellB hSw e00 y1; have e01 := cellB hSw e01 y1; have e02 := cellB hSw e02 y1; have e03 := cellB hSw e03 y1; have e20 := cellB hSw e20 y2; have e21 := cellB hSw e21 y2; have e22 := cellB hSw e22 y2; first | (go_simp; done) | (go_simp; with_reducible rfl) | (trace_state; fail)
    try simp only [Act.put, List.setIfInBounds_toArray, List.set_cons_zero, List.set_cons_succ]
    refine wpAnyH_done (by kernel_rfl) ?_ _
    have hb3 := hb1.trans (hHeld.mono hb1.size)
    have hB3 := k4.trans (hb3.mono k4.size)
    clear e00 e01 e02 e03 e20 e21 e22 hHeld
    have e00 := (K1.out.keep z1 hb3) 0 _ rfl
    have e01 := (K1.out.keep z1 hb3) 1 _ rfl
    have e02 := (K1.out.keep z1 hb3) 2 _ rfl
    have e03 := (K1.out.keep z1 hb3) 3 _ rfl
    have e20 := (K2.out.keep k3 hb3) 0 _ rfl
    have e21 := (K2.out.keep k3 hb3) 1 _ rfl
    have e22 := (K2.out.keep k3 hb3) 2 _ rfl
    go_wp2_with fail
    refine (HO.out _ hB3).mono ?_; rintro e w4 ⟨rfl, hb4⟩
    have H34 := Lib.hid hb4
    have hb4 := hb3.trans (hb4.mono hb3.size)
    have hB4 := k4.trans (hb4.mono k4.size)
    clear e00 e01 e02 e03 e20 e21 e22
    have e00 := (K1.out.keep z1 hb4) 0 _ rfl
    have e01 := (K1.out.keep z1 hb4) 1 _ rfl
    have e02 := (K1.out.keep z1 hb4) 2 _ rfl
    have e03 := (K1.out.keep z1 hb4) 3 _ rfl
    have e20 := (K2.out.keep k3 hb4) 0 _ rfl
    have e21 := (K2.out.keep k3 hb4) 1 _ rfl
    have e22 := (K2.out.keep k3 hb4) 2 _ rfl
    have Hra := Lib.hid (fun W (hb : Below w3.heap.size w3 W) => Hra.out.below intR_stable hb)
    have Hrb := Lib.hid (fun W (hb : Below w3.heap.size w3 W) => Hrb.out.below intR_stable hb)
    have h34 : Below w3.heap.size w3 w4 := H34.out
    go_wp2_with fail
    refine (HRT.out _ hB4).mono ?_; rintro e w5 ⟨r5, rfl, hr5, hb5⟩
    obtain ⟨a5, c5, rfl⟩ := row_get hr5
    rw [Hn.out.1] at hr5 ⊢
    have h35 := h34.trans (hb5.mono h34.size)
    have hb5 := hb4.trans (hb5.mono hb4.size)
    have Hr5 := Lib.hid hr5
    clear hr5
    go_wp2_with fail
    refine (ref15_Ints _ _ tk tk _ (Hra.out _ h35) Hr5.out).mono ?_; rintro e w6 ⟨rfl, m6, rfl⟩
    rw [decide_eq_true rfl]
    have hb6 := below_drewN hb5 m6
    have h36 := below_drewN h35 m6
    have hB6 := k4.trans (hb6.mono k4.size)
    clear e00 e01 e02 e03 e20 e21 e22
    have e00 := (K1.out.keep z1 hb6) 0 _ rfl
    have e01 := (K1.out.keep z1 hb6) 1 _ rfl
    have e02 := (K1.out.keep z1 hb6) 2 _ rfl
    have e03 := (K1.out.keep z1 hb6) 3 _ rfl
    have e20 := (K2.out.keep k3 hb6) 0 _ rfl
    have e21 := (K2.out.keep k3 hb6) 1 _ rfl
    have e22 := (K2.out.keep k3 hb6) 2 _ rfl
    go_wp2_with fail
    refine (HRL.out _ hB6).mono ?_; rintro e w7 ⟨r7, rfl, hr7, hb7⟩
    obtain ⟨a7, c7, rfl⟩ := row_get hr7
    rw [Hn.out.2] at hr7 ⊢
    have h37 := h36.trans (hb7.mono h36.size)
    have hb7 := hb6.trans (hb7.mono hb6.size)
    have Hr7 := Lib.hid hr7
    clear hr7
    go_wp2_with fail
    refine (ref15_Ints _ _ lv lv _ (Hrb.out _ h37) Hr7.out).mono ?_; rintro e w8 ⟨rfl, m8, rfl⟩
    rw [decide_eq_true rfl]
    have hB8 := k4.trans ((below_drewN hb7 m8).mono k4.size)
    go_wp2_with fail
    refine (HA.out _ hB8).mono ?_; rintro e w9 ⟨rfl, hb9⟩
    go_wp2_with fail
    go_ret
    exact ⟨rfl, hB8.trans (hb9.mono hB8.size)⟩
  · have hTO : takesO p u o a b = [] := if_neg h1
    have hLO : leavesO p u o a b = [] := if_neg h1
    rw [hTO] at HTk
    rw [hLO] at HLv
    generalize oneP p u o a b = e1 at *
    have q : (e1 != 0) = true := by simpa using h1
    clear hTO hLO h1 HRT HRL hlen
    go_enter Tryd.func3, Tryd.ntmps3
    go_wp2_with fail
    refine (HF.out _ (by (repeat' (first | (with_reducible exact Below.refl _ _) | (with_reducible assumption) | (with_reducible refine below_drewN ?_ _) | (with_reducible refine Below.alloc ?_ ?_ _) | (with_reducible refine Below.drew ?_) | (with_reducible refine Below.setCell ?_ ?_ _) | go_size)))).mono ?_; rintro e w1 ⟨rfl, hb1⟩
    rw [← HW0.out] at hb1
    have hB1 := k4.trans (hb1.mono k4.size)
    have y1 := Nat.lt_of_lt_of_le z1 hb1.size
    have y2 := Nat.lt_of_lt_of_le k3 hb1.size
    have e00 := (K1.out.keep z1 hb1) 0 _ rfl
    have e01 := (K1.out.keep z1 hb1) 1 _ rfl
    have e02 := (K1.out.keep z1 hb1) 2 _ rfl
    have e03 := (K1.out.keep z1 hb1) 3 _ rfl
    have e20 := (K2.out.keep k3 hb1) 0 _ rfl
    have e21 := (K2.out.keep k3 hb1) 1 _ rfl
    have e22 := (K2.out.keep k3 hb1) 2 _ rfl
    go_wp2_with fail
    refine wp_region_held_drew (S := (fun w' => Below w1.heap.size w1 w')) (by kernel_rfl) ?_ (fun hHeld => ?_)
    · (try dsimp only); first | assumption | exact Below.alloc hHeld hHeld.size _ | exact (Below.refl _ _).drew | exact Below.drew (Below.refl _ _) | exact Below_drewN _ _ _ | exact Below.refl _ _ | (trace_state; fail)
    refine wpAnyH_take (i := 0) (oi := { dst := some 13, op := Op.load 27 (Operand.tmp 3), type := 27, pos := _, after := #[], guard := none }) (v := ?_) rfl (by kernel_rfl) (by kernel_rfl) (by kernel_rfl) (fun _ _ _ h => h) (Or.inl ⟨by rfl, ?_⟩) (by assumption) ?_
    rotate_left
    · intro wt hSw; (try dsimp only at hSw); have e00 := cellB hSw e00 y1; have e01 := cellB hSw e01 y1; have e02 := cellB hSw e02 y1; have e03 := cellB hSw e03 y1; have e20 := cellB hSw e20 y2; have e21 := cellB hSw e21 y2; have e22 := cellB hSw e22 y2; first | (go_simp; done) | (go_simp; with_reducible rfl) | (trace_state; fail)
    try simp only [Act.put, List.setIfInBounds_toArray, List.set_cons_zero, List.set_cons_succ]
    refine wpAnyH_take (i := 1) (oi := { dst := some 14, op := Op.move (Operand.tmp 1), type := 3, pos := _, after := #[], guard := none }) (v := ?_) rfl (by kernel_rfl) (by kernel_rfl) (by kernel_rfl) (fun _ _ _ h => h) (Or.inl ⟨by rfl, ?_⟩) (by assumption) ?_
    rotate_left
    · intro wt hSw; (try dsimp only at hSw); have e00 := cellB hSw e00 y1; have e01 := cellB hSw e01 y1; have e02 := cellB hSw e02 y1; have e03 := cellB hSw e03 y1; have e20 := cellB hSw e20 y2; have e21 := cellB hSw e21 y2; have e22 := cellB hSw e22 y2; first | (go_simp; done) | (go_simp; with_reducible rfl) | (trace_state; fail)
    try simp only [Act.put, List.setIfInBounds_toArray, List.set_cons_zero, List.set_cons_succ]
    refine wpAnyH_take (i := 2) (oi := { dst := some 15, op := Op.load 29 (Operand.tmp 5), type := 29, pos := _, after := #[], guard := none }) (v := ?_) rfl (by kernel_rfl) (by kernel_rfl) (by kernel_rfl) (fun _ _ _ h => h) (Or.inl ⟨by rfl, ?_⟩) (by assumption) ?_
    rotate_left
    · intro wt hSw; (try dsimp only at hSw); have e00 := cellB hSw e00 y1; have e01 := cellB hSw e01 y1; have e02 := cellB hSw e02 y1; have e03 := cellB hSw e03 y1; have e20 := cellB hSw e20 y2; have e21 := cellB hSw e21 y2; have e22 := cellB hSw e22 y2; first | (go_simp; done) | (go_simp; with_reducible rfl) | (trace_state; fail)
    try simp only [Act.put, List.setIfInBounds_toArray, List.set_cons_zero, List.set_cons_succ]
    refine wpAnyH_take (i := 4) (oi := { dst := some 17, op := Op.load 27 (Operand.tmp 3), type := 27, pos := _, after := #[], guard := none }) (v := ?_) rfl (by kernel_rfl) (by kernel_rfl) (by kernel_rfl) (fun _ _ _ h => h) (Or.inl ⟨by rfl, ?_⟩) (by assumption) ?_
    rotate_left
    · intro wt hSw; (try dsimp only at hSw); have e00 := cellB hSw e00 y1; have e01 := cellB hSw e01 y1; have e02 := cellB hSw e02 y1; have e03 := cellB hSw e03 y1; have e20 := cellB hSw e20 y2; have e21 := cellB hSw e21 y2; have e22 := cellB hSw e22 y2; first | (go_simp; done) | (go_simp; with_reducible rfl) | (trace_state; fail)
    try simp only [Act.put, List.setIfInBounds_toArray, List.set_cons_zero, List.set_cons_succ]
    refine wpAnyH_take (i := 5) (oi := { dst := some 18, op := Op.move (Operand.tmp 1), type := 3, pos := _, after := #[], guard := none }) (v := ?_) rfl (by kernel_rfl) (by kernel_rfl) (by kernel_rfl) (fun _ _ _ h => h) (Or.inl ⟨by rfl, ?_⟩) (by assumption) ?_
    rotate_left
    · intro wt hSw; (try dsimp only at hSw); have e00 := cellB hSw e00 y1; have e01 := cellB hSw e01 y1; have e02 := cellB hSw e02 y1; have e03 := cellB hSw e03 y1; have e20 := cellB hSw e20 y2; have e21 := cellB hSw e21 y2; have e22 := cellB hSw e22 y2; first | (go_simp; done) | (go_simp; with_reducible rfl) | (trace_state; fail)
    try simp only [Act.put, List.setIfInBounds_toArray, List.set_cons_zero, List.set_cons_succ]
    refine wpAnyH_take (i := 6) (oi := { dst := some 19, op := Op.load 29 (Operand.tmp 5), type := 29, pos := _, after := #[], guard := none }) (v := ?_) rfl (by kernel_rfl) (by kernel_rfl) (by kernel_rfl) (fun _ _ _ h => h) (Or.inl ⟨by rfl, ?_⟩) (by assumption) ?_
    rotate_left
    · intro wt hSw; (try dsimp only at hSw); have e00 := cellB hSw e00 y1; have e01 := cellB hSw e01 y1; have e02 := cellB hSw e02 y1; have e03 := cellB hSw e03 y1; have e20 := cellB hSw e20 y2; have e21 := cellB hSw e21 y2; have e22 := cellB hSw e22 y2; first | (go_simp; done) | (go_simp; with_reducible rfl) | (trace_state; fail)
    try simp only [Act.put, List.setIfInBounds_toArray, List.set_cons_zero, List.set_cons_succ]
    refine wpAnyH_ready (rs := [3]) (by kernel_rfl) (by simp) ?_
    refine AllReadyH.cons (o := { dst := some 16, op := Op.call { callee := Callee.value (Operand.func 7), args := #[Operand.tmp 13, Operand.tmp 14, Operand.tmp 15], argTypes := #[27, 3, 29] }, type := 32, pos := _, after := #[{ on := 0, ground := Ground.data }, { on := 1, ground := Ground.data }, { on := 2, ground := Ground.data }], guard := none }) rfl (fun K hK => ?_) AllReadyH.nil
    go_simp
    refine (HTk.out _ (hB1.trans (hHeld.mono hB1.size))).mono ?_; rintro e w2 ⟨ra, rfl, hra, hb2⟩; obtain ⟨aa, ac, rfl⟩ := row_get hra; rw [List.length_nil] at hra ⊢; have Hra := Lib.hid hra; have hHeld := hHeld.trans (hb2.mono hHeld.size); clear hb2 hra
    go_wp2_with fail
    refine hK.out _ _ ?_ (fun hHeld => ?_)
    · (try dsimp only); first | assumption | exact Below.alloc hHeld hHeld.size _ | exact (Below.refl _ _).drew | exact Below.drew (Below.refl _ _) | exact Below_drewN _ _ _ | exact Below.refl _ _ | (trace_state; fail)
    clear hK K
    try simp only [Act.put, List.setIfInBounds_toArray, List.set_cons_zero, List.set_cons_succ]
    refine wpAnyH_ready (rs := [7]) (by kernel_rfl) (by simp) ?_
    refine AllReadyH.cons (o := { dst := some 20, op := Op.call { callee := Callee.value (Operand.func 8), args := #[Operand.tmp 17, Operand.tmp 18, Operand.tmp 19], argTypes := #[27, 3, 29] }, type := 32, pos := _, after := #[{ on := 4, ground := Ground.data }, { on := 5, ground := Ground.data }, { on := 6, ground := Ground.data }, { on := 3, ground := Ground.chain }], guard := none }) rfl (fun K hK => ?_) AllReadyH.nil
    go_simp
    refine (HLv.out _ (hB1.trans (hHeld.mono hB1.size))).mono ?_; rintro e w3 ⟨rb, rfl, hrb, hb3⟩; have Hra := Lib.hid (Hra.out.below intR_stable hb3); obtain ⟨ba, bc, rfl⟩ := row_get hrb; rw [List.length_nil] at hrb ⊢; have Hrb := Lib.hid hrb; have hHeld := hHeld.trans (hb3.mono hHeld.size); clear hb3 hrb
    go_wp2_with fail
    refine hK.out _ _ ?_ (fun hHeld => ?_)
    · (try dsimp only); first | assumption | exact Below.alloc hHeld hHeld.size _ | exact (Below.refl _ _).drew | exact Below.drew (Below.refl _ _) | exact Below_drewN _ _ _ | exact Below.refl _ _ | (trace_state; fail)
    clear hK K
    try simp only [Act.put, List.setIfInBounds_toArray, List.set_cons_zero, List.set_cons_succ]
    refine wpAnyH_take (i := 8) (oi := { dst := some 7, op := Op.assign (Operand.tmp 16), type := 32, pos := _, after := #[{ on := 3, ground := Ground.data }, { on := 7, ground := Ground.chain }, { on := 0, ground := Ground.phase }, { on := 1, ground := Ground.phase }, { on := 2, ground := Ground.phase }, { on := 3, ground := Ground.phase }, { on := 4, ground := Ground.textOnly Departure.lateStores }, { on := 5, ground := Ground.textOnly Departure.lateStores }, { on := 6, ground := Ground.textOnly Departure.lateStores }, { on := 7, ground := Ground.textOnly Departure.lateStoresUnsure }], guard := none }) (v := ?_) rfl (by kernel_rfl) (by kernel_rfl) (by kernel_rfl) (fun _ _ _ h => h) (Or.inl ⟨by rfl, ?_⟩) (by assumption) ?_
    rotate_left
    · intro wt hSw; (try dsimp only at hSw); have e00 := cellB hSw e00 y1; have e01 := cellB hSw e01 y1; have e02 := cellB hSw e02 y1; have e03 := cellB hSw e03 y1; have e20 := cellB hSw e20 y2; have e21 := cellB hSw e21 y2; have e22 := cellB hSw e22 y2; first | (go_simp; done) | (go_simp; with_reducible rfl) | (trace_state; fail)
    try simp only [Act.put, List.setIfInBounds_toArray, List.set_cons_zero, List.set_cons_succ]
    refine wpAnyH_take (i := 9) (oi := { dst := some 8, op := Op.assign (Operand.tmp 20), type := 32, pos := _, after := #[{ on := 7, ground := Ground.data }, { on := 8, ground := Ground.chain }, { on := 0, ground := Ground.phase }, { on := 1, ground := Ground.phase }, { on := 2, ground := Ground.phase }, { on := 3, ground := Ground.phase }, { on := 4, ground := Ground.phase }, { on := 5, ground := Ground.phase }, { on := 6, ground := Ground.phase }, { on := 7, ground := Ground.phase }, { on := 8, ground := Ground.phase }], guard := none }) (v := ?_) rfl (by kernel_rfl) (by kernel_rfl) (by kernel_rfl) (fun _ _ _ h => h) (Or.inl ⟨by rfl, ?_⟩) (by assumption) ?_
    rotate_left
    · intro wt hSw; (try dsimp only at hSw); have e00 := cellB hSw e00 y1; have e01 := cellB hSw e01 y1; have e02 := cellB hSw e02 y1; have e03 := cellB hSw e03 y1; have e20 := cellB hSw e20 y2; have e21 := cellB hSw e21 y2; have e22 := cellB hSw e22 y2; first | (go_simp; done) | (go_simp; with_reducible rfl) | (trace_state; fail)
    try simp only [Act.put, List.setIfInBounds_toArray, List.set_cons_zero, List.set_cons_succ]
    refine wpAnyH_done (by kernel_rfl) ?_ _
    have hb3 := hb1.trans (hHeld.mono hb1.size)
    have hB3 := k4.trans (hb3.mono k4.size)
    clear e00 e01 e02 e03 e20 e21 e22 hHeld
    have e00 := (K1.out.keep z1 hb3) 0 _ rfl
    have e01 := (K1.out.keep z1 hb3) 1 _ rfl
    have e02 := (K1.out.keep z1 hb3) 2 _ rfl
    have e03 := (K1.out.keep z1 hb3) 3 _ rfl
    have e20 := (K2.out.keep k3 hb3) 0 _ rfl
    have e21 := (K2.out.keep k3 hb3) 1 _ rfl
    have e22 := (K2.out.keep k3 hb3) 2 _ rfl
    go_wp2_with fail
    refine (HO.out _ hB3).mono ?_; rintro e w4 ⟨rfl, hb4⟩
    have hb4 := hb3.trans (hb4.mono hb3.size)
    have hB4 := k4.trans (hb4.mono k4.size)
    clear e00 e01 e02 e03 e20 e21 e22
    have e00 := (K1.out.keep z1 hb4) 0 _ rfl
    have e01 := (K1.out.keep z1 hb4) 1 _ rfl
    have e02 := (K1.out.keep z1 hb4) 2 _ rfl
    have e03 := (K1.out.keep z1 hb4) 3 _ rfl
    have e20 := (K2.out.keep k3 hb4) 0 _ rfl
    have e21 := (K2.out.keep k3 hb4) 1 _ rfl
    have e22 := (K2.out.keep k3 hb4) 2 _ rfl
    go_wp2_with fail
    refine (HA.out _ hB4).mono ?_; rintro e w9 ⟨rfl, hb9⟩
    go_wp2_with fail
    go_ret
    exact ⟨rfl, hB4.trans (hb9.mono hB4.size)⟩
end Go.Proofs.YtjkblhopdjgkiaaDoor
