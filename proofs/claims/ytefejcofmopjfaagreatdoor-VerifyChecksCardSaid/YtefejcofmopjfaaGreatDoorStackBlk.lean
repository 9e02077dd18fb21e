/- Layer 19: what an instruction takes, and leaves. -/




import Derived.Test.YtefejcofmopjfaaGreatDoorStackOf
import Derived.Test.YtefejcofmopjfaaGreatDoorBlockF
namespace Go.Proofs.YtefejcofmopjfaaGreatDoor
open Go.RowKit
set_option linter.unusedSimpArgs false
set_option linter.unusedVariables false
def tAt (p : Pr) (a : Int) : Int := (p.vars.getD a.toNat ⟨[], 0, 0, 0, 0⟩).t
def cAt (p : Pr) (a : Int) : Int := (p.consts.getD a.toNat (0, 0)).1
def tkB (o t : Int) : List Int := if o = 35 then [t] else []
def lvB (o t : Int) : List Int := if o = 37 then [t] else []
/-- what an instruction takes -/
def takesL (p : Pr) (x : Un) (o a b : Int) : List Int :=
  if o = 2 ∨ o = 3 ∨ o = 6 ∨ o = 7 then tkV o (tAt p a) else if o = 4 ∨ o = 5 then tkV o (slotAt x a) else if 8 ≤ o ∧ o ≤ 26 then tkT o a
  else if o = 27 ∨ o = 28 then [0] else if o = 29 then [0, 0] else if o = 31 then [1] else if o = 32 then [2] else if o = 33 then (unAt p a).params else tkB o (fldT (kindAt p a) b)
/-- what an instruction leaves -/
def leavesL (p : Pr) (x : Un) (o a b : Int) : List Int :=
  if o = 1 then [cAt p a] else if o = 2 ∨ o = 3 ∨ o = 6 ∨ o = 7 then lvV o (tAt p a) else if o = 4 ∨ o = 5 then lvV o (slotAt x a) else if 8 ≤ o ∧ o ≤ 26 then lvT o a b
  else if o = 27 ∨ o = 29 then [0, 0] else if o = 33 then (if (unAt p a).result = 0 then [] else [(unAt p a).result]) else lvB o (fldT (kindAt p a) b)
theorem oneP_parts {p : Pr} {u o a b : Int} (h : oneP p u o a b = 0) : (0 ≤ u ∧ u < p.units.length) ∧ (0 ≤ o ∧ o ≤ 37) ∧ 0 ≤ a ∧ 0 ≤ b ∧ typedP o a b = true ∧ thereP p (unAt p u) o a b = true := by
  unfold oneP at h
  split at h
  · omega
  · rename_i h1
    split at h
    · omega
    · rename_i h2
      split at h
      · omega
      · rename_i h3
        split at h
        · omega
        · rename_i h4
          obtain ⟨h5, h6, h7, _⟩ := oRight_pos (o := o) (a := a) (b := b) (by simpa using h2)
          exact ⟨Classical.not_not.1 h1, h5, h6, h7, by simpa using h3, by simpa using h4⟩
theorem getD_or {α : Type} (l : List α) (n : Nat) (d : α) : l.getD n d ∈ l ∨ l.getD n d = d := by
  by_cases h : n < l.length
  · left; simp [List.getD, h]
  · right; simp [List.getD, List.getElem?_eq_none (Nat.le_of_not_lt h)]
theorem fldT_small (k i : Int) : 0 ≤ fldT k i ∧ fldT k i ≤ 6 := by
  have h : ∀ x ∈ bF k, 0 ≤ x.2 ∧ x.2 ≤ 6 := by
    unfold bF
    repeat' split
    all_goals decide
  unfold fldT
  split
  · omega
  · rcases getD_or (bF k) i.toNat ([], 0) with hm | hm
    · exact h _ hm
    · rw [hm]; exact ⟨by decide, by decide⟩
theorem fldT_I64 (k i : Int) : I64 (fldT k i) := by have := fldT_small k i; unfold I64; omega
theorem slotAt_I64 {w : World} {a b c : Value} {x : Un} (h : UnAt w a b c x) (n : Int) : I64 (slotAt x n) := by
  have hp := row_ints h.ps
  have hl := row_ints h.ls
  have hr := h.r64
  unfold slotAt
  rcases getD_or (slotsL x) n.toNat 0 with hm | hm
  · unfold slotsL at hm
    rcases List.mem_append.1 hm with hz | hz
    · rcases List.mem_append.1 hz with hz | hz
      · exact hp _ hz
      · by_cases h0 : x.result = 0
        · rw [if_pos h0] at hz; cases hz
        · rw [if_neg h0] at hz
          rw [show (slotsL x).getD n.toNat 0 = x.result by unfold slotsL; rw [if_neg h0]; simpa using hz]; exact hr
    · exact hl _ hz
  · rw [hm]; exact I64_0
theorem typedP_b {a b : Int} (h : typedP 26 a b = true) : kRight a = true ∧ kRight b = true := by
  have h' : (kRight a && kRight b) = true := h
  simpa using h'
theorem aResult_I64 {o a : Int} (ha : I64 a) : I64 (aResult o a) := by
  unfold aResult
  split
  · split
    · exact I64_1
    · exact ha
  · exact I64_0
set_option maxHeartbeats 4000000 in
theorem stack_ofBlock (pc pv pb pu : Value) (p : Pr) (o a b : Int) (w : World) (h : PrAt w pc pv pb pu p) (hT : BTab w) (ha : 0 ≤ a) (ha2 : a < p.blocks.length) (ho : o = 35 ∨ o = 36 ∨ o = 37) :
    Calls Tryz.prog 122 #[.agg #[pc, pv, pb, pu], .agg #[.int .i64 o, .int .i64 a, .int .i64 b]] w fun e w' => ∃ r1 r2, e = .returned (.tuple #[r1, r2]) ∧ RowR 1 intR w' r1 (tkB o (fldT (kindAt p a) b)) ∧ RowR 1 intR w' r2 (lvB o (fldT (kindAt p a) b)) ∧ Below w.heap.size w w' := by
  have cp := @cell_past
  have hbk := h.bs
  obtain ⟨s2, t2, rfl⟩ := row_get h.bs
  clear h
  obtain ⟨ka, rfl⟩ := Int.eq_ofNat_of_zero_le ha
  obtain ⟨y, hy⟩ := get_some (L := p.blocks) (n := ka) (by omega)
  have hky : kindAt p ka = y.kind := by unfold kindAt; simp [List.getD, hy]
  rw [hky]
  obtain ⟨b2, off2, rfl, hbw2, hc2⟩ := blk_at hbk (k := ka) (lt_of_get hy)
  obtain ⟨_, cc, _, _⟩ := hc2 ka y hy
  have r2 : ((ka : Int) < (p.blocks.length : Int)) = True := eq_true ha2
  generalize hkk : y.kind = kk at *
  clear hc2 hy hky hkk hbk
  generalize p.blocks.length = n2 at *
  have HFl := Lib.hid (fun W (hb : Below w.heap.size w W) => block_Field kk b W (hT.below hb))
  have HI := Lib.hid (fldT_I64 kk b)
  generalize fldT kk b = ft at *
  generalize fldS kk b = fs at *
  clear hT ha ha2
  have HP1 := Lib.hid (fun (W : World) (z : Int) (hz : I64 z) => stack_put (.slice none 0 0) (.slice (some ⟨W.heap.size, 0, none⟩) 1 1) [] [z] (W.alloc (.cells #[.int .i64 z] 3)) row_none (row_cells1 (by rw [cell_at rfl]; rfl) hz) (by simp) (by simp))
  obtain ⟨W0, hW0⟩ : ∃ W0, W0 = (w.alloc (.cells #[pc, pv, .slice (some ⟨b2, off2, none⟩) n2 t2, pu] 27)).alloc (.cells #[.int .i64 o, .int .i64 ka, .int .i64 b] 40) := ⟨_, rfl⟩
  obtain ⟨k1, k2, k3, k4⟩ := boxed2 w [pc, pv, .slice (some ⟨b2, off2, none⟩) n2 t2, pu] [.int .i64 o, .int .i64 ka, .int .i64 b] 27 40 (W' := W0) (by rw [hW0]; exact Below.refl _ _)
  have z1 : w.heap.size < W0.heap.size := by omega
  have e02 := k1 2 _ rfl
  have e20 := k2 0 _ rfl
  have e21 := k2 1 _ rfl
  have e22 := k2 2 _ rfl
  have cc1 := (k4.cell (p := ⟨b2, off2 + ka * 2 + 1, none⟩) hbw2).trans cc
  have z2 : b2 < W0.heap.size := Nat.lt_of_lt_of_le hbw2 k4.size
  have K2 := Lib.hid k2
  have HW0 := Lib.hid hW0
  clear k1 k2 hW0
  rcases ho with rfl | rfl | rfl
  · go_enter Tryz.func122, Tryz.ntmps122
    go_wp2_with fail
    rw [← HW0.out]
    refine wp_region_held_drew (S := (fun w' => Below W0.heap.size W0 w')) (by kernel_rfl) ?_ (fun hHeld => ?_)
    · (try dsimp only); first | assumption | exact Below.alloc hHeld hHeld.size _ | exact (Below.refl _ _).drew | exact Below.drew (Below.refl _ _) | exact Below_drewN _ _ _ | exact Below.refl _ _ | (trace_state; fail)
    refine wpAnyH_take (i := 0) (oi := { dst := some 9, op := Op.fieldAddr 27 (Operand.tmp 2) 2, type := 0, pos := _, after := #[], guard := none }) (v := ?_) rfl (by kernel_rfl) (by kernel_rfl) (by kernel_rfl) (fun _ _ _ h => h) (Or.inl ⟨by rfl, ?_⟩) (by assumption) ?_
    rotate_left
    · intro wt hSw; (try dsimp only at hSw); have e02 := cellB hSw e02 z1; have e21 := cellB hSw e21 k3; have e22 := cellB hSw e22 k3; have cc1 := cellB hSw cc1 z2; first | (go_simp; done) | (go_simp; with_reducible rfl) | (trace_state; fail)
    try simp only [Act.put, List.setIfInBounds_toArray, List.set_cons_zero, List.set_cons_succ]
    refine wpAnyH_take (i := 1) (oi := { dst := some 10, op := Op.load 24 (Operand.tmp 9), type := 24, pos := _, after := #[{ on := 0, ground := Ground.data }], guard := none }) (v := ?_) rfl (by kernel_rfl) (by kernel_rfl) (by kernel_rfl) (fun _ _ _ h => h) (Or.inl ⟨by rfl, ?_⟩) (by assumption) ?_
    rotate_left
    · intro wt hSw; (try dsimp only at hSw); have e02 := cellB hSw e02 z1; have e21 := cellB hSw e21 k3; have e22 := cellB hSw e22 k3; have cc1 := cellB hSw cc1 z2; first | (go_simp; done) | (go_simp; with_reducible rfl) | (trace_state; fail)
    try simp only [Act.put, List.setIfInBounds_toArray, List.set_cons_zero, List.set_cons_succ]
    refine wpAnyH_take (i := 2) (oi := { dst := some 11, op := Op.fieldAddr 40 (Operand.tmp 3) 1, type := 0, pos := _, after := #[], guard := none }) (v := ?_) rfl (by kernel_rfl) (by kernel_rfl) (by kernel_rfl) (fun _ _ _ h => h) (Or.inl ⟨by rfl, ?_⟩) (by assumption) ?_
    rotate_left
    · intro wt hSw; (try dsimp only at hSw); have e02 := cellB hSw e02 z1; have e21 := cellB hSw e21 k3; have e22 := cellB hSw e22 k3; have cc1 := cellB hSw cc1 z2; first | (go_simp; done) | (go_simp; with_reducible rfl) | (trace_state; fail)
    try simp only [Act.put, List.setIfInBounds_toArray, List.set_cons_zero, List.set_cons_succ]
    refine wpAnyH_take (i := 3) (oi := { dst := some 12, op := Op.load 3 (Operand.tmp 11), type := 3, pos := _, after := #[{ on := 2, ground := Ground.data }], guard := none }) (v := ?_) rfl (by kernel_rfl) (by kernel_rfl) (by kernel_rfl) (fun _ _ _ h => h) (Or.inl ⟨by rfl, ?_⟩) (by assumption) ?_
    rotate_left
    · intro wt hSw; (try dsimp only at hSw); have e02 := cellB hSw e02 z1; have e21 := cellB hSw e21 k3; have e22 := cellB hSw e22 k3; have cc1 := cellB hSw cc1 z2; first | (go_simp; done) | (go_simp; with_reducible rfl) | (trace_state; fail)
    try simp only [Act.put, List.setIfInBounds_toArray, List.set_cons_zero, List.set_cons_succ]
    refine wpAnyH_take (i := 4) (oi := { dst := some 13, op := Op.indexAddr 24 (Operand.tmp 10) (Operand.tmp 12), type := 0, pos := _, after := #[{ on := 1, ground := Ground.data }, { on := 3, ground := Ground.data }], guard := none }) (v := ?_) rfl (by kernel_rfl) (by kernel_rfl) (by kernel_rfl) (fun _ _ _ h => h) (Or.inl ⟨by rfl, ?_⟩) (by assumption) ?_
    rotate_left
    · intro wt hSw; (try dsimp only at hSw); have e02 := cellB hSw e02 z1; have e21 := cellB hSw e21 k3; have e22 := cellB hSw e22 k3; have cc1 := cellB hSw cc1 z2; first | (go_simp; done) | (go_simp; with_reducible rfl) | (trace_state; fail)
    try simp only [Act.put, List.setIfInBounds_toArray, List.set_cons_zero, List.set_cons_succ]
    refine wpAnyH_take (i := 5) (oi := { dst := some 14, op := Op.fieldAddr 44 (Operand.tmp 13) 1, type := 0, pos := _, after := #[{ on := 4, ground := Ground.data }], guard := none }) (v := ?_) rfl (by kernel_rfl) (by kernel_rfl) (by kernel_rfl) (fun _ _ _ h => h) (Or.inl ⟨by rfl, ?_⟩) (by assumption) ?_
    rotate_left
    · intro wt hSw; (try dsimp only at hSw); have e02 := cellB hSw e02 z1; have e21 := cellB hSw e21 k3; have e22 := cellB hSw e22 k3; have cc1 := cellB hSw cc1 z2; first | (go_simp; done) | (go_simp; with_reducible rfl) | (trace_state; fail)
    try simp only [Act.put, List.setIfInBounds_toArray, List.set_cons_zero, List.set_cons_succ]
    refine wpAnyH_take (i := 6) (oi := { dst := some 15, op := Op.load 3 (Operand.tmp 14), type := 3, pos := _, after := #[{ on := 5, ground := Ground.data }], guard := none }) (v := ?_) rfl (by kernel_rfl) (by kernel_rfl) (by kernel_rfl) (fun _ _ _ h => h) (Or.inl ⟨by rfl, ?_⟩) (by assumption) ?_
    rotate_left
    · intro wt hSw; (try dsimp only at hSw); have e02 := cellB hSw e02 z1; have e21 := cellB hSw e21 k3; have e22 := cellB hSw e22 k3; have cc1 := cellB hSw cc1 z2; first | (go_simp; done) | (go_simp; with_reducible rfl) | (trace_state; fail)
    try simp only [Act.put, List.setIfInBounds_toArray, List.set_cons_zero, List.set_cons_succ]
    refine wpAnyH_take (i := 7) (oi := { dst := some 16, op := Op.fieldAddr 40 (Operand.tmp 3) 2, type := 0, pos := _, after := #[], guard := none }) (v := ?_) rfl (by kernel_rfl) (by kernel_rfl) (by kernel_rfl) (fun _ _ _ h => h) (Or.inl ⟨by rfl, ?_⟩) (by assumption) ?_
    rotate_left
    · intro wt hSw; (try dsimp only at hSw); have e02 := cellB hSw e02 z1; have e21 := cellB hSw e21 k3; have e22 := cellB hSw e22 k3; have cc1 := cellB hSw cc1 z2; first | (go_simp; done) | (go_simp; with_reducible rfl) | (trace_state; fail)
    try simp only [Act.put, List.setIfInBounds_toArray, List.set_cons_zero, List.set_cons_succ]
    refine wpAnyH_take (i := 8) (oi := { dst := some 17, op := Op.load 3 (Operand.tmp 16), type := 3, pos := _, after := #[{ on := 7, ground := Ground.data }], guard := none }) (v := ?_) rfl (by kernel_rfl) (by kernel_rfl) (by kernel_rfl) (fun _ _ _ h => h) (Or.inl ⟨by rfl, ?_⟩) (by assumption) ?_
    rotate_left
    · intro wt hSw; (try dsimp only at hSw); have e02 := cellB hSw e02 z1; have e21 := cellB hSw e21 k3; have e22 := cellB hSw e22 k3; have cc1 := cellB hSw cc1 z2; first | (go_simp; done) | (go_simp; with_reducible rfl) | (trace_state; fail)
    try simp only [Act.put, List.setIfInBounds_toArray, List.set_cons_zero, List.set_cons_succ]
    refine wpAnyH_ready (rs := [9]) (by kernel_rfl) (by simp) ?_
    refine AllReadyH.cons (o := { dst := some 18, op := Op.call { callee := Callee.value (Operand.func 139), args := #[Operand.tmp 15, Operand.tmp 17], argTypes := #[3, 3] }, type := 172, pos := _, after := #[{ on := 6, ground := Ground.data }, { on := 8, ground := Ground.data }], guard := none }) rfl (fun K hK => ?_) AllReadyH.nil
    go_simp
    refine (HFl.out _ (k4.trans (hHeld.mono k4.size))).mono ?_; rintro e w1 ⟨rfl, hb1⟩; have hHeld := hHeld.trans (hb1.mono hHeld.size); clear hb1
    go_wp2_with fail
    refine hK.out _ _ ?_ (fun hHeld => ?_)
    · (try dsimp only); first | assumption | exact Below.alloc hHeld hHeld.size _ | exact (Below.refl _ _).drew | exact Below.drew (Below.refl _ _) | exact Below_drewN _ _ _ | exact Below.refl _ _ | (trace_state; fail)
    clear hK K
    try simp only [Act.put, List.setIfInBounds_toArray, List.set_cons_zero, List.set_cons_succ]
    refine wpAnyH_take (i := 10) (oi := { dst := some 8, op := Op.move (Operand.tmp 18), type := 172, pos := _, after := #[{ on := 9, ground := Ground.data }], guard := none }) (v := ?_) rfl (by kernel_rfl) (by kernel_rfl) (by kernel_rfl) (fun _ _ _ h => h) (Or.inl ⟨by rfl, ?_⟩) (by assumption) ?_
    rotate_left
    · intro wt hSw; (try dsimp only at hSw); have e02 := cellB hSw e02 z1; have e21 := cellB hSw e21 k3; have e22 := cellB hSw e22 k3; have cc1 := cellB hSw cc1 z2; first | (go_simp; done) | (go_simp; with_reducible rfl) | (trace_state; fail)
    try simp only [Act.put, List.setIfInBounds_toArray, List.set_cons_zero, List.set_cons_succ]
    refine wpAnyH_take (i := 11) (oi := { dst := some 19, op := Op.extract (Operand.tmp 8) 0, type := 9, pos := _, after := #[{ on := 10, ground := Ground.data }], guard := none }) (v := ?_) rfl (by kernel_rfl) (by kernel_rfl) (by kernel_rfl) (fun _ _ _ h => h) (Or.inl ⟨by rfl, ?_⟩) (by assumption) ?_
    rotate_left
    · intro wt hSw; (try dsimp only at hSw); have e02 := cellB hSw e02 z1; have e21 := cellB hSw e21 k3; have e22 := cellB hSw e22 k3; have cc1 := cellB hSw cc1 z2; first | (go_simp; done) | (go_simp; with_reducible rfl) | (trace_state; fail)
    try simp only [Act.put, List.setIfInBounds_toArray, List.set_cons_zero, List.set_cons_succ]
    refine wpAnyH_take (i := 12) (oi := { dst := some 20, op := Op.extract (Operand.tmp 8) 1, type := 3, pos := _, after := #[{ on := 10, ground := Ground.data }, { on := 13, ground := Ground.gcOnly Departure.lateStores }], guard := none }) (v := ?_) rfl (by kernel_rfl) (by kernel_rfl) (by kernel_rfl) (fun _ _ _ h => h) (Or.inl ⟨by rfl, ?_⟩) (by assumption) ?_
    rotate_left
    · intro wt hSw; (try dsimp only at hSw); have e02 := cellB hSw e02 z1; have e21 := cellB hSw e21 k3; have e22 := cellB hSw e22 k3; have cc1 := cellB hSw cc1 z2; first | (go_simp; done) | (go_simp; with_reducible rfl) | (trace_state; fail)
    try simp only [Act.put, List.setIfInBounds_toArray, List.set_cons_zero, List.set_cons_succ]
    refine wpAnyH_take (i := 13) (oi := { dst := some 6, op := Op.assign (Operand.tmp 19), type := 9, pos := _, after := #[{ on := 11, ground := Ground.data }, { on := 9, ground := Ground.chain }, { on := 0, ground := Ground.phase }, { on := 1, ground := Ground.phase }, { on := 2, ground := Ground.phase }, { on := 3, ground := Ground.phase }, { on := 4, ground := Ground.phase }, { on := 5, ground := Ground.phase }, { on := 6, ground := Ground.phase }, { on := 7, ground := Ground.phase }, { on := 8, ground := Ground.phase }, { on := 9, ground := Ground.phase }, { on := 10, ground := Ground.phase }, { on := 11, ground := Ground.phase }, { on := 12, ground := Ground.textOnly Departure.lateStores }], guard := none }) (v := ?_) rfl (by kernel_rfl) (by kernel_rfl) (by kernel_rfl) (fun _ _ _ h => h) (Or.inl ⟨by rfl, ?_⟩) (by assumption) ?_
    rotate_left
    · intro wt hSw; (try dsimp only at hSw); have e02 := cellB hSw e02 z1; have e21 := cellB hSw e21 k3; have e22 := cellB hSw e22 k3; have cc1 := cellB hSw cc1 z2; first | (go_simp; done) | (go_simp; with_reducible rfl) | (trace_state; fail)
    try simp only [Act.put, List.setIfInBounds_toArray, List.set_cons_zero, List.set_cons_succ]
    refine wpAnyH_take (i := 14) (oi := { dst := some 7, op := Op.assign (Operand.tmp 20), type := 3, pos := _, after := #[{ on := 12, ground := Ground.data }, { on := 13, ground := Ground.chain }, { on := 0, ground := Ground.phase }, { on := 1, ground := Ground.phase }, { on := 2, ground := Ground.phase }, { on := 3, ground := Ground.phase }, { on := 4, ground := Ground.phase }, { on := 5, ground := Ground.phase }, { on := 6, ground := Ground.phase }, { on := 7, ground := Ground.phase }, { on := 8, ground := Ground.phase }, { on := 9, ground := Ground.phase }, { on := 10, ground := Ground.phase }, { on := 11, ground := Ground.phase }, { on := 12, ground := Ground.phase }, { on := 13, ground := Ground.phase }], guard := none }) (v := ?_) rfl (by kernel_rfl) (by kernel_rfl) (by kernel_rfl) (fun _ _ _ h => h) (Or.inl ⟨by rfl, ?_⟩) (by assumption) ?_
    rotate_left
    · intro wt hSw; (try dsimp only at hSw); have e02 := cellB hSw e02 z1; have e21 := cellB hSw e21 k3; have e22 := cellB hSw e22 k3; have cc1 := cellB hSw cc1 z2; first | (go_simp; done) | (go_simp; with_reducible rfl) | (trace_state; fail)
    try simp only [Act.put, List.setIfInBounds_toArray, List.set_cons_zero, List.set_cons_succ]
    refine wpAnyH_done (by kernel_rfl) ?_ _
    have e20' := (K2.out.keep k3 hHeld) 0 _ rfl
    have hB1 := k4.trans (hHeld.mono k4.size)
    go_wp2_with fail
    refine (HP1.out _ ft HI.out).mono ?_; rintro e w2 ⟨r, rfl, hr, hb2⟩
    have hb2 : Below w1.heap.size w1 w2 := Below.trans (by (repeat' (first | (with_reducible exact Below.refl _ _) | (with_reducible assumption) | (with_reducible refine below_drewN ?_ _) | (with_reducible refine Below.alloc ?_ ?_ _) | (with_reducible refine Below.drew ?_) | (with_reducible refine Below.setCell ?_ ?_ _) | go_size))) (hb2.mono (by simp))
    have Hr := Lib.hid hr
    clear hr
    go_wp2_with fail
    go_returns
    exact ⟨_, _, rfl, Hr.out, row_none, hB1.trans (hb2.mono hB1.size)⟩
  · go_enter Tryz.func122, Tryz.ntmps122
    go_wp2_with fail
    rw [← HW0.out]
    refine wp_region_held_drew (S := (fun w' => Below W0.heap.size W0 w')) (by kernel_rfl) ?_ (fun hHeld => ?_)
    · (try dsimp only); first | assumption | exact Below.alloc hHeld hHeld.size _ | exact (Below.refl _ _).drew | exact Below.drew (Below.refl _ _) | exact Below_drewN _ _ _ | exact Below.refl _ _ | (trace_state; fail)
    refine wpAnyH_take (i := 0) (oi := { dst := some 9, op := Op.fieldAddr 27 (Operand.tmp 2) 2, type := 0, pos := _, after := #[], guard := none }) (v := ?_) rfl (by kernel_rfl) (by kernel_rfl) (by kernel_rfl) (fun _ _ _ h => h) (Or.inl ⟨by rfl, ?_⟩) (by assumption) ?_
    rotate_left
    · intro wt hSw; (try dsimp only at hSw); have e02 := cellB hSw e02 z1; have e21 := cellB hSw e21 k3; have e22 := cellB hSw e22 k3; have cc1 := cellB hSw cc1 z2; first | (go_simp; done) | (go_simp; with_reducible rfl) | (trace_state; fail)
    try simp only [Act.put, List.setIfInBounds_toArray, List.set_cons_zero, List.set_cons_succ]
    refine wpAnyH_take (i := 1) (oi := { dst := some 10, op := Op.load 24 (Operand.tmp 9), type := 24, pos := _, after := #[{ on := 0, ground := Ground.data }], guard := none }) (v := ?_) rfl (by kernel_rfl) (by kernel_rfl) (by kernel_rfl) (fun _ _ _ h => h) (Or.inl ⟨by rfl, ?_⟩) (by assumption) ?_
    rotate_left
    · intro wt hSw; (try dsimp only at hSw); have e02 := cellB hSw e02 z1; have e21 := cellB hSw e21 k3; have e22 := cellB hSw e22 k3; have cc1 := cellB hSw cc1 z2; first | (go_simp; done) | (go_simp; with_reducible rfl) | (trace_state; fail)
    try simp only [Act.put, List.setIfInBounds_toArray, List.set_cons_zero, List.set_cons_succ]
    refine wpAnyH_take (i := 2) (oi := { dst := some 11, op := Op.fieldAddr 40 (Operand.tmp 3) 1, type := 0, pos := _, after := #[], guard := none }) (v := ?_) rfl (by kernel_rfl) (by kernel_rfl) (by kernel_rfl) (fun _ _ _ h => h) (Or.inl ⟨by rfl, ?_⟩) (by assumption) ?_
    rotate_left
    · intro wt hSw; (try dsimp only at hSw); have e02 := cellB hSw e02 z1; have e21 := cellB hSw e21 k3; have e22 := cellB hSw e22 k3; have cc1 := cellB hSw cc1 z2; first | (go_simp; done) | (go_simp; with_reducible rfl) | (trace_state; fail)
    try simp only [Act.put, List.setIfInBounds_toArray, List.set_cons_zero, List.set_cons_succ]
    refine wpAnyH_take (i := 3) (oi := { dst := some 12, op := Op.load 3 (Operand.tmp 11), type := 3, pos := _, after := #[{ on := 2, ground := Ground.data }], guard := none }) (v := ?_) rfl (by kernel_rfl) (by kernel_rfl) (by kernel_rfl) (fun _ _ _ h => h) (Or.inl ⟨by rfl, ?_⟩) (by assumption) ?_
    rotate_left
    · intro wt hSw; (try dsimp only at hSw); have e02 := cellB hSw e02 z1; have e21 := cellB hSw e21 k3; have e22 := cellB hSw e22 k3; have cc1 := cellB hSw cc1 z2; first | (go_simp; done) | (go_simp; with_reducible rfl) | (trace_state; fail)
    try simp only [Act.put, List.setIfInBounds_toArray, List.set_cons_zero, List.set_cons_succ]
    refine wpAnyH_take (i := 4) (oi := { dst := some 13, op := Op.indexAddr 24 (Operand.tmp 10) (Operand.tmp 12), type := 0, pos := _, after := #[{ on := 1, ground := Ground.data }, { on := 3, ground := Ground.data }], guard := none }) (v := ?_) rfl (by kernel_rfl) (by kernel_rfl) (by kernel_rfl) (fun _ _ _ h => h) (Or.inl ⟨by rfl, ?_⟩) (by assumption) ?_
    rotate_left
    · intro wt hSw; (try dsimp only at hSw); have e02 := cellB hSw e02 z1; have e21 := cellB hSw e21 k3; have e22 := cellB hSw e22 k3; have cc1 := cellB hSw cc1 z2; first | (go_simp; done) | (go_simp; with_reducible rfl) | (trace_state; fail)
    try simp only [Act.put, List.setIfInBounds_toArray, List.set_cons_zero, List.set_cons_succ]
    refine wpAnyH_take (i := 5) (oi := { dst := some 14, op := Op.fieldAddr 44 (Operand.tmp 13) 1, type := 0, pos := _, after := #[{ on := 4, ground := Ground.data }], guard := none }) (v := ?_) rfl (by kernel_rfl) (by kernel_rfl) (by kernel_rfl) (fun _ _ _ h => h) (Or.inl ⟨by rfl, ?_⟩) (by assumption) ?_
    rotate_left
    · intro wt hSw; (try dsimp only at hSw); have e02 := cellB hSw e02 z1; have e21 := cellB hSw e21 k3; have e22 := cellB hSw e22 k3; have cc1 := cellB hSw cc1 z2; first | (go_simp; done) | (go_simp; with_reducible rfl) | (trace_state; fail)
    try simp only [Act.put, List.setIfInBounds_toArray, List.set_cons_zero, List.set_cons_succ]
    refine wpAnyH_take (i := 6) (oi := { dst := some 15, op := Op.load 3 (Operand.tmp 14), type := 3, pos := _, after := #[{ on := 5, ground := Ground.data }], guard := none }) (v := ?_) rfl (by kernel_rfl) (by kernel_rfl) (by kernel_rfl) (fun _ _ _ h => h) (Or.inl ⟨by rfl, ?_⟩) (by assumption) ?_
    rotate_left
    · intro wt hSw; (try dsimp only at hSw); have e02 := cellB hSw e02 z1; have e21 := cellB hSw e21 k3; have e22 := cellB hSw e22 k3; have cc1 := cellB hSw cc1 z2; first | (go_simp; done) | (go_simp; with_reducible rfl) | (trace_state; fail)
    try simp only [Act.put, List.setIfInBounds_toArray, List.set_cons_zero, List.set_cons_succ]
    refine wpAnyH_take (i := 7) (oi := { dst := some 16, op := Op.fieldAddr 40 (Operand.tmp 3) 2, type := 0, pos := _, after := #[], guard := none }) (v := ?_) rfl (by kernel_rfl) (by kernel_rfl) (by kernel_rfl) (fun _ _ _ h => h) (Or.inl ⟨by rfl, ?_⟩) (by assumption) ?_
    rotate_left
    · intro wt hSw; (try dsimp only at hSw); have e02 := cellB hSw e02 z1; have e21 := cellB hSw e21 k3; have e22 := cellB hSw e22 k3; have cc1 := cellB hSw cc1 z2; first | (go_simp; done) | (go_simp; with_reducible rfl) | (trace_state; fail)
    try simp only [Act.put, List.setIfInBounds_toArray, List.set_cons_zero, List.set_cons_succ]
    refine wpAnyH_take (i := 8) (oi := { dst := some 17, op := Op.load 3 (Operand.tmp 16), type := 3, pos := _, after := #[{ on := 7, ground := Ground.data }], guard := none }) (v := ?_) rfl (by kernel_rfl) (by kernel_rfl) (by kernel_rfl) (fun _ _ _ h => h) (Or.inl ⟨by rfl, ?_⟩) (by assumption) ?_
    rotate_left
    · intro wt hSw; (try dsimp only at hSw); have e02 := cellB hSw e02 z1; have e21 := cellB hSw e21 k3; have e22 := cellB hSw e22 k3; have cc1 := cellB hSw cc1 z2; first | (go_simp; done) | (go_simp; with_reducible rfl) | (trace_state; fail)
    try simp only [Act.put, List.setIfInBounds_toArray, List.set_cons_zero, List.set_cons_succ]
    refine wpAnyH_ready (rs := [9]) (by kernel_rfl) (by simp) ?_
    refine AllReadyH.cons (o := { dst := some 18, op := Op.call { callee := Callee.value (Operand.func 139), args := #[Operand.tmp 15, Operand.tmp 17], argTypes := #[3, 3] }, type := 172, pos := _, after := #[{ on := 6, ground := Ground.data }, { on := 8, ground := Ground.data }], guard := none }) rfl (fun K hK => ?_) AllReadyH.nil
    go_simp
    refine (HFl.out _ (k4.trans (hHeld.mono k4.size))).mono ?_; rintro e w1 ⟨rfl, hb1⟩; have hHeld := hHeld.trans (hb1.mono hHeld.size); clear hb1
    go_wp2_with fail
    refine hK.out _ _ ?_ (fun hHeld => ?_)
    · (try dsimp only); first | assumption | exact Below.alloc hHeld hHeld.size _ | exact (Below.refl _ _).drew | exact Below.drew (Below.refl _ _) | exact Below_drewN _ _ _ | exact Below.refl _ _ | (trace_state; fail)
    clear hK K
    try simp only [Act.put, List.setIfInBounds_toArray, List.set_cons_zero, List.set_cons_succ]
    refine wpAnyH_take (i := 10) (oi := { dst := some 8, op := Op.move (Operand.tmp 18), type := 172, pos := _, after := #[{ on := 9, ground := Ground.data }], guard := none }) (v := ?_) rfl (by kernel_rfl) (by kernel_rfl) (by kernel_rfl) (fun _ _ _ h => h) (Or.inl ⟨by rfl, ?_⟩) (by assumption) ?_
    rotate_left
    · intro wt hSw; (try dsimp only at hSw); have e02 := cellB hSw e02 z1; have e21 := cellB hSw e21 k3; have e22 := cellB hSw e22 k3; have cc1 := cellB hSw cc1 z2; first | (go_simp; done) | (go_simp; with_reducible rfl) | (trace_state; fail)
    try simp only [Act.put, List.setIfInBounds_toArray, List.set_cons_zero, List.set_cons_succ]
    refine wpAnyH_take (i := 11) (oi := { dst := some 19, op := Op.extract (Operand.tmp 8) 0, type := 9, pos := _, after := #[{ on := 10, ground := Ground.data }], guard := none }) (v := ?_) rfl (by kernel_rfl) (by kernel_rfl) (by kernel_rfl) (fun _ _ _ h => h) (Or.inl ⟨by rfl, ?_⟩) (by assumption) ?_
    rotate_left
    · intro wt hSw; (try dsimp only at hSw); have e02 := cellB hSw e02 z1; have e21 := cellB hSw e21 k3; have e22 := cellB hSw e22 k3; have cc1 := cellB hSw cc1 z2; first | (go_simp; done) | (go_simp; with_reducible rfl) | (trace_state; fail)
    try simp only [Act.put, List.setIfInBounds_toArray, List.set_cons_zero, List.set_cons_succ]
    refine wpAnyH_take (i := 12) (oi := { dst := some 20, op := Op.extract (Operand.tmp 8) 1, type := 3, pos := _, after := #[{ on := 10, ground := Ground.data }, { on := 13, ground := Ground.gcOnly Departure.lateStores }], guard := none }) (v := ?_) rfl (by kernel_rfl) (by kernel_rfl) (by kernel_rfl) (fun _ _ _ h => h) (Or.inl ⟨by rfl, ?_⟩) (by assumption) ?_
    rotate_left
    · intro wt hSw; (try dsimp only at hSw); have e02 := cellB hSw e02 z1; have e21 := cellB hSw e21 k3; have e22 := cellB hSw e22 k3; have cc1 := cellB hSw cc1 z2; first | (go_simp; done) | (go_simp; with_reducible rfl) | (trace_state; fail)
    try simp only [Act.put, List.setIfInBounds_toArray, List.set_cons_zero, List.set_cons_succ]
    refine wpAnyH_take (i := 13) (oi := { dst := some 6, op := Op.assign (Operand.tmp 19), type := 9, pos := _, after := #[{ on := 11, ground := Ground.data }, { on := 9, ground := Ground.chain }, { on := 0, ground := Ground.phase }, { on := 1, ground := Ground.phase }, { on := 2, ground := Ground.phase }, { on := 3, ground := Ground.phase }, { on := 4, ground := Ground.phase }, { on := 5, ground := Ground.phase }, { on := 6, ground := Ground.phase }, { on := 7, ground := Ground.phase }, { on := 8, ground := Ground.phase }, { on := 9, ground := Ground.phase }, { on := 10, ground := Ground.phase }, { on := 11, ground := Ground.phase }, { on := 12, ground := Ground.textOnly Departure.lateStores }], guard := none }) (v := ?_) rfl (by kernel_rfl) (by kernel_rfl) (by kernel_rfl) (fun _ _ _ h => h) (Or.inl ⟨by rfl, ?_⟩) (by assumption) ?_
    rotate_left
    · intro wt hSw; (try dsimp only at hSw); have e02 := cellB hSw e02 z1; have e21 := cellB hSw e21 k3; have e22 := cellB hSw e22 k3; have cc1 := cellB hSw cc1 z2; first | (go_simp; done) | (go_simp; with_reducible rfl) | (trace_state; fail)
    try simp only [Act.put, List.setIfInBounds_toArray, List.set_cons_zero, List.set_cons_succ]
    refine wpAnyH_take (i := 14) (oi := { dst := some 7, op := Op.assign (Operand.tmp 20), type := 3, pos := _, after := #[{ on := 12, ground := Ground.data }, { on := 13, ground := Ground.chain }, { on := 0, ground := Ground.phase }, { on := 1, ground := Ground.phase }, { on := 2, ground := Ground.phase }, { on := 3, ground := Ground.phase }, { on := 4, ground := Ground.phase }, { on := 5, ground := Ground.phase }, { on := 6, ground := Ground.phase }, { on := 7, ground := Ground.phase }, { on := 8, ground := Ground.phase }, { on := 9, ground := Ground.phase }, { on := 10, ground := Ground.phase }, { on := 11, ground := Ground.phase }, { on := 12, ground := Ground.phase }, { on := 13, ground := Ground.phase }], guard := none }) (v := ?_) rfl (by kernel_rfl) (by kernel_rfl) (by kernel_rfl) (fun _ _ _ h => h) (Or.inl ⟨by rfl, ?_⟩) (by assumption) ?_
    rotate_left
    · intro wt hSw; (try dsimp only at hSw); have e02 := cellB hSw e02 z1; have e21 := cellB hSw e21 k3; have e22 := cellB hSw e22 k3; have cc1 := cellB hSw cc1 z2; first | (go_simp; done) | (go_simp; with_reducible rfl) | (trace_state; fail)
    try simp only [Act.put, List.setIfInBounds_toArray, List.set_cons_zero, List.set_cons_succ]
    refine wpAnyH_done (by kernel_rfl) ?_ _
    have e20' := (K2.out.keep k3 hHeld) 0 _ rfl
    have hB1 := k4.trans (hHeld.mono k4.size)
    go_wp2_with fail
    go_returns
    exact ⟨_, _, rfl, row_none, row_none, hB1⟩
  · go_enter Tryz.func122, Tryz.ntmps122
    go_wp2_with fail
    rw [← HW0.out]
    refine wp_region_held_drew (S := (fun w' => Below W0.heap.size W0 w')) (by kernel_rfl) ?_ (fun hHeld => ?_)
    · (try dsimp only); first | assumption | exact Below.alloc hHeld hHeld.size _ | exact (Below.refl _ _).drew | exact Below.drew (Below.refl _ _) | exact Below_drewN _ _ _ | exact Below.refl _ _ | (trace_state; fail)
    refine wpAnyH_take (i := 0) (oi := { dst := some 9, op := Op.fieldAddr 27 (Operand.tmp 2) 2, type := 0, pos := _, after := #[], guard := none }) (v := ?_) rfl (by kernel_rfl) (by kernel_rfl) (by kernel_rfl) (fun _ _ _ h => h) (Or.inl ⟨by rfl, ?_⟩) (by assumption) ?_
    rotate_left
    · intro wt hSw; (try dsimp only at hSw); have e02 := cellB hSw e02 z1; have e21 := cellB hSw e21 k3; have e22 := cellB hSw e22 k3; have cc1 := cellB hSw cc1 z2; first | (go_simp; done) | (go_simp; with_reducible rfl) | (trace_state; fail)
    try simp only [Act.put, List.setIfInBounds_toArray, List.set_cons_zero, List.set_cons_succ]
    refine wpAnyH_take (i := 1) (oi := { dst := some 10, op := Op.load 24 (Operand.tmp 9), type := 24, pos := _, after := #[{ on := 0, ground := Ground.data }], guard := none }) (v := ?_) rfl (by kernel_rfl) (by kernel_rfl) (by kernel_rfl) (fun _ _ _ h => h) (Or.inl ⟨by rfl, ?_⟩) (by assumption) ?_
    rotate_left
    · intro wt hSw; (try dsimp only at hSw); have e02 := cellB hSw e02 z1; have e21 := cellB hSw e21 k3; have e22 := cellB hSw e22 k3; have cc1 := cellB hSw cc1 z2; first | (go_simp; done) | (go_simp; with_reducible rfl) | (trace_state; fail)
    try simp only [Act.put, List.setIfInBounds_toArray, List.set_cons_zero, List.set_cons_succ]
    refine wpAnyH_take (i := 2) (oi := { dst := some 11, op := Op.fieldAddr 40 (Operand.tmp 3) 1, type := 0, pos := _, after := #[], guard := none }) (v := ?_) rfl (by kernel_rfl) (by kernel_rfl) (by kernel_rfl) (fun _ _ _ h => h) (Or.inl ⟨by rfl, ?_⟩) (by assumption) ?_
    rotate_left
    · intro wt hSw; (try dsimp only at hSw); have e02 := cellB hSw e02 z1; have e21 := cellB hSw e21 k3; have e22 := cellB hSw e22 k3; have cc1 := cellB hSw cc1 z2; first | (go_simp; done) | (go_simp; with_reducible rfl) | (trace_state; fail)
    try simp only [Act.put, List.setIfInBounds_toArray, List.set_cons_zero, List.set_cons_succ]
    refine wpAnyH_take (i := 3) (oi := { dst := some 12, op := Op.load 3 (Operand.tmp 11), type := 3, pos := _, after := #[{ on := 2, ground := Ground.data }], guard := none }) (v := ?_) rfl (by kernel_rfl) (by kernel_rfl) (by kernel_rfl) (fun _ _ _ h => h) (Or.inl ⟨by rfl, ?_⟩) (by assumption) ?_
    rotate_left
    · intro wt hSw; (try dsimp only at hSw); have e02 := cellB hSw e02 z1; have e21 := cellB hSw e21 k3; have e22 := cellB hSw e22 k3; have cc1 := cellB hSw cc1 z2; first | (go_simp; done) | (go_simp; with_reducible rfl) | (trace_state; fail)
    try simp only [Act.put, List.setIfInBounds_toArray, List.set_cons_zero, List.set_cons_succ]
    refine wpAnyH_take (i := 4) (oi := { dst := some 13, op := Op.indexAddr 24 (Operand.tmp 10) (Operand.tmp 12), type := 0, pos := _, after := #[{ on := 1, ground := Ground.data }, { on := 3, ground := Ground.data }], guard := none }) (v := ?_) rfl (by kernel_rfl) (by kernel_rfl) (by kernel_rfl) (fun _ _ _ h => h) (Or.inl ⟨by rfl, ?_⟩) (by assumption) ?_
    rotate_left
    · intro wt hSw; (try dsimp only at hSw); have e02 := cellB hSw e02 z1; have e21 := cellB hSw e21 k3; have e22 := cellB hSw e22 k3; have cc1 := cellB hSw cc1 z2; first | (go_simp; done) | (go_simp; with_reducible rfl) | (trace_state; fail)
    try simp only [Act.put, List.setIfInBounds_toArray, List.set_cons_zero, List.set_cons_succ]
    refine wpAnyH_take (i := 5) (oi := { dst := some 14, op := Op.fieldAddr 44 (Operand.tmp 13) 1, type := 0, pos := _, after := #[{ on := 4, ground := Ground.data }], guard := none }) (v := ?_) rfl (by kernel_rfl) (by kernel_rfl) (by kernel_rfl) (fun _ _ _ h => h) (Or.inl ⟨by rfl, ?_⟩) (by assumption) ?_
    rotate_left
    · intro wt hSw; (try dsimp only at hSw); have e02 := cellB hSw e02 z1; have e21 := cellB hSw e21 k3; have e22 := cellB hSw e22 k3; have cc1 := cellB hSw cc1 z2; first | (go_simp; done) | (go_simp; with_reducible rfl) | (trace_state; fail)
    try simp only [Act.put, List.setIfInBounds_toArray, List.set_cons_zero, List.set_cons_succ]
    refine wpAnyH_take (i := 6) (oi := { dst := some 15, op := Op.load 3 (Operand.tmp 14), type := 3, pos := _, after := #[{ on := 5, ground := Ground.data }], guard := none }) (v := ?_) rfl (by kernel_rfl) (by kernel_rfl) (by kernel_rfl) (fun _ _ _ h => h) (Or.inl ⟨by rfl, ?_⟩) (by assumption) ?_
    rotate_left
    · intro wt hSw; (try dsimp only at hSw); have e02 := cellB hSw e02 z1; have e21 := cellB hSw e21 k3; have e22 := cellB hSw e22 k3; have cc1 := cellB hSw cc1 z2; first | (go_simp; done) | (go_simp; with_reducible rfl) | (trace_state; fail)
    try simp only [Act.put, List.setIfInBounds_toArray, List.set_cons_zero, List.set_cons_succ]
    refine wpAnyH_take (i := 7) (oi := { dst := some 16, op := Op.fieldAddr 40 (Operand.tmp 3) 2, type := 0, pos := _, after := #[], guard := none }) (v := ?_) rfl (by kernel_rfl) (by kernel_rfl) (by kernel_rfl) (fun _ _ _ h => h) (Or.inl ⟨by rfl, ?_⟩) (by assumption) ?_
    rotate_left
    · intro wt hSw; (try dsimp only at hSw); have e02 := cellB hSw e02 z1; have e21 := cellB hSw e21 k3; have e22 := cellB hSw e22 k3; have cc1 := cellB hSw cc1 z2; first | (go_simp; done) | (go_simp; with_reducible rfl) | (trace_state; fail)
    try simp only [Act.put, List.setIfInBounds_toArray, List.set_cons_zero, List.set_cons_succ]
    refine wpAnyH_take (i := 8) (oi := { dst := some 17, op := Op.load 3 (Operand.tmp 16), type := 3, pos := _, after := #[{ on := 7, ground := Ground.data }], guard := none }) (v := ?_) rfl (by kernel_rfl) (by kernel_rfl) (by kernel_rfl) (fun _ _ _ h => h) (Or.inl ⟨by rfl, ?_⟩) (by assumption) ?_
    rotate_left
    · intro wt hSw; (try dsimp only at hSw); have e02 := cellB hSw e02 z1; have e21 := cellB hSw e21 k3; have e22 := cellB hSw e22 k3; have cc1 := cellB hSw cc1 z2; first | (go_simp; done) | (go_simp; with_reducible rfl) | (trace_state; fail)
    try simp only [Act.put, List.setIfInBounds_toArray, List.set_cons_zero, List.set_cons_succ]
    refine wpAnyH_ready (rs := [9]) (by kernel_rfl) (by simp) ?_
    refine AllReadyH.cons (o := { dst := some 18, op := Op.call { callee := Callee.value (Operand.func 139), args := #[Operand.tmp 15, Operand.tmp 17], argTypes := #[3, 3] }, type := 172, pos := _, after := #[{ on := 6, ground := Ground.data }, { on := 8, ground := Ground.data }], guard := none }) rfl (fun K hK => ?_) AllReadyH.nil
    go_simp
    refine (HFl.out _ (k4.trans (hHeld.mono k4.size))).mono ?_; rintro e w1 ⟨rfl, hb1⟩; have hHeld := hHeld.trans (hb1.mono hHeld.size); clear hb1
    go_wp2_with fail
    refine hK.out _ _ ?_ (fun hHeld => ?_)
    · (try dsimp only); first | assumption | exact Below.alloc hHeld hHeld.size _ | exact (Below.refl _ _).drew | exact Below.drew (Below.refl _ _) | exact Below_drewN _ _ _ | exact Below.refl _ _ | (trace_state; fail)
    clear hK K
    try simp only [Act.put, List.setIfInBounds_toArray, List.set_cons_zero, List.set_cons_succ]
    refine wpAnyH_take (i := 10) (oi := { dst := some 8, op := Op.move (Operand.tmp 18), type := 172, pos := _, after := #[{ on := 9, ground := Ground.data }], guard := none }) (v := ?_) rfl (by kernel_rfl) (by kernel_rfl) (by kernel_rfl) (fun _ _ _ h => h) (Or.inl ⟨by rfl, ?_⟩) (by assumption) ?_
    rotate_left
    · intro wt hSw; (try dsimp only at hSw); have e02 := cellB hSw e02 z1; have e21 := cellB hSw e21 k3; have e22 := cellB hSw e22 k3; have cc1 := cellB hSw cc1 z2; first | (go_simp; done) | (go_simp; with_reducible rfl) | (trace_state; fail)
    try simp only [Act.put, List.setIfInBounds_toArray, List.set_cons_zero, List.set_cons_succ]
    refine wpAnyH_take (i := 11) (oi := { dst := some 19, op := Op.extract (Operand.tmp 8) 0, type := 9, pos := _, after := #[{ on := 10, ground := Ground.data }], guard := none }) (v := ?_) rfl (by kernel_rfl) (by kernel_rfl) (by kernel_rfl) (fun _ _ _ h => h) (Or.inl ⟨by rfl, ?_⟩) (by assumption) ?_
    rotate_left
    · intro wt hSw; (try dsimp only at hSw); have e02 := cellB hSw e02 z1; have e21 := cellB hSw e21 k3; have e22 := cellB hSw e22 k3; have cc1 := cellB hSw cc1 z2; first | (go_simp; done) | (go_simp; with_reducible rfl) | (trace_state; fail)
    try simp only [Act.put, List.setIfInBounds_toArray, List.set_cons_zero, List.set_cons_succ]
    refine wpAnyH_take (i := 12) (oi := { dst := some 20, op := Op.extract (Operand.tmp 8) 1, type := 3, pos := _, after := #[{ on := 10, ground := Ground.data }, { on := 13, ground := Ground.gcOnly Departure.lateStores }], guard := none }) (v := ?_) rfl (by kernel_rfl) (by kernel_rfl) (by kernel_rfl) (fun _ _ _ h => h) (Or.inl ⟨by rfl, ?_⟩) (by assumption) ?_
    rotate_left
    · intro wt hSw; (try dsimp only at hSw); have e02 := cellB hSw e02 z1; have e21 := cellB hSw e21 k3; have e22 := cellB hSw e22 k3; have cc1 := cellB hSw cc1 z2; first | (go_simp; done) | (go_simp; with_reducible rfl) | (trace_state; fail)
    try simp only [Act.put, List.setIfInBounds_toArray, List.set_cons_zero, List.set_cons_succ]
    refine wpAnyH_take (i := 13) (oi := { dst := some 6, op := Op.assign (Operand.tmp 19), type := 9, pos := _, after := #[{ on := 11, ground := Ground.data }, { on := 9, ground := Ground.chain }, { on := 0, ground := Ground.phase }, { on := 1, ground := Ground.phase }, { on := 2, ground := Ground.phase }, { on := 3, ground := Ground.phase }, { on := 4, ground := Ground.phase }, { on := 5, ground := Ground.phase }, { on := 6, ground := Ground.phase }, { on := 7, ground := Ground.phase }, { on := 8, ground := Ground.phase }, { on := 9, ground := Ground.phase }, { on := 10, ground := Ground.phase }, { on := 11, ground := Ground.phase }, { on := 12, ground := Ground.textOnly Departure.lateStores }], guard := none }) (v := ?_) rfl (by kernel_rfl) (by kernel_rfl) (by kernel_rfl) (fun _ _ _ h => h) (Or.inl ⟨by rfl, ?_⟩) (by assumption) ?_
    rotate_left
    · intro wt hSw; (try dsimp only at hSw); have e02 := cellB hSw e02 z1; have e21 := cellB hSw e21 k3; have e22 := cellB hSw e22 k3; have cc1 := cellB hSw cc1 z2; first | (go_simp; done) | (go_simp; with_reducible rfl) | (trace_state; fail)
    try simp only [Act.put, List.setIfInBounds_toArray, List.set_cons_zero, List.set_cons_succ]
    refine wpAnyH_take (i := 14) (oi := { dst := some 7, op := Op.assign (Operand.tmp 20), type := 3, pos := _, after := #[{ on := 12, ground := Ground.data }, { on := 13, ground := Ground.chain }, { on := 0, ground := Ground.phase }, { on := 1, ground := Ground.phase }, { on := 2, ground := Ground.phase }, { on := 3, ground := Ground.phase }, { on := 4, ground := Ground.phase }, { on := 5, ground := Ground.phase }, { on := 6, ground := Ground.phase }, { on := 7, ground := Ground.phase }, { on := 8, ground := Ground.phase }, { on := 9, ground := Ground.phase }, { on := 10, ground := Ground.phase }, { on := 11, ground := Ground.phase }, { on := 12, ground := Ground.phase }, { on := 13, ground := Ground.phase }], guard := none }) (v := ?_) rfl (by kernel_rfl) (by kernel_rfl) (by kernel_rfl) (fun _ _ _ h => h) (Or.inl ⟨by rfl, ?_⟩) (by assumption) ?_
    rotate_left
    · intro wt hSw; (try dsimp only at hSw); have e02 := cellB hSw e02 z1; have e21 := cellB hSw e21 k3; have e22 := cellB hSw e22 k3; have cc1 := cellB hSw cc1 z2; first | (go_simp; done) | (go_simp; with_reducible rfl) | (trace_state; fail)
    try simp only [Act.put, List.setIfInBounds_toArray, List.set_cons_zero, List.set_cons_succ]
    refine wpAnyH_done (by kernel_rfl) ?_ _
    have e20' := (K2.out.keep k3 hHeld) 0 _ rfl
    have hB1 := k4.trans (hHeld.mono k4.size)
    go_wp2_with fail
    refine (HP1.out _ ft HI.out).mono ?_; rintro e w2 ⟨r, rfl, hr, hb2⟩
    have hb2 : Below w1.heap.size w1 w2 := Below.trans (by (repeat' (first | (with_reducible exact Below.refl _ _) | (with_reducible assumption) | (with_reducible refine below_drewN ?_ _) | (with_reducible refine Below.alloc ?_ ?_ _) | (with_reducible refine Below.drew ?_) | (with_reducible refine Below.setCell ?_ ?_ _) | go_size))) (hb2.mono (by simp))
    have Hr := Lib.hid hr
    clear hr
    go_wp2_with fail
    go_returns
    exact ⟨_, _, rfl, row_none, Hr.out, hB1.trans (hb2.mono hB1.size)⟩
end Go.Proofs.YtefejcofmopjfaaGreatDoor
