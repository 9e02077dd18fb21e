/- Layer 6: the walk of BitsHold. -/
import Derived.Test.YtochjlllfbmhpaaDoorBitLike
namespace Go.Proofs.YtochjlllfbmhpaaDoor
open Go.RowKit
set_option linter.unusedSimpArgs false
set_option linter.unusedVariables false
theorem lst_all (n : Nat) : (lst (List.replicate n true)).length = n := by
  have : ∀ m, m ≤ n → (lstN (List.replicate n true) m).length = m := by
    intro m
    induction m with
    | zero => intro _; rfl
    | succ m ih =>
      intro hm
      rw [lstN_succ, List.length_append, ih (by omega)]
      have : (List.replicate n true).getD m false = true := by
        have h : m < n := by omega
        simp [List.getD, List.getElem?_replicate, h]
      rw [this]; rfl
  unfold lst
  rw [this _ (by simp)]
  simp
theorem of_form (room : Int) (v : Value) (l : List Int) (n : Nat) (hn : clampR room = n) (w : World) (hv : RowR 1 intR w v l) : Calls Tryd.prog 6 #[.int .i64 room, v] w fun e w' => ∃ a q c a2 c2, e = .returned (.tuple #[.agg #[.int .i64 n, .slice a q c], .slice a2 n c2]) ∧ SetR w' (.agg #[.int .i64 n, .slice a q c]) (setOf room l) ∧ RowR 1 boolR w' (.slice a2 n c2) (setOf room l) ∧ Below w.heap.size w w' :=
  (law06_of room v l w hv).mono (by
    rintro e w' ⟨s, x, rfl, hS, hX, hb⟩
    obtain ⟨ws, a, c, rfl, h⟩ := id hS
    obtain ⟨a2, c2, rfl⟩ := row_get hX
    rw [setOf_len, hn] at hS hX ⊢
    exact ⟨a, _, c, a2, c2, rfl, hS, hX, hb⟩)
set_option maxHeartbeats 2000000 in
theorem bitsHold_walk (room : Int) (v : Value) (l : List Int) (i : Int) (w : World) (hv : RowR 1 intR w v l) (hT : DB w) : Calls Tryd.prog 3 #[.int .i64 room, v, .int .i64 i] w fun e w' => e = .returned (.bool true) ∧ Below w.heap.size w w' := by
  have HA0 := Lib.hid (fun W (h : Below w.heap.size w W) => law06_awake W (hT.below h))
  have HT := Lib.hid hT
  have hvl := hv.len
  obtain ⟨sv, cv, rfl⟩ := row_get hv
  obtain ⟨N, hN⟩ : ∃ N, l.length = N := ⟨_, rfl⟩
  have hvN := hv
  rw [hN] at hv hvl ⊢
  have HV := Lib.hid hv
  clear hv hvN hT
  by_cases h1 : 500 < room
  · have p1 : (500 < room) = True := eq_true h1
    clear h1
    go_enter Tryd.func3, Tryd.ntmps3
    go_wp2_with fail
    refine (HA0.out _ (Below.refl _ _)).mono ?_; rintro e w2 ⟨rfl, hb⟩
    go_wp2_with fail
    go_ret
    exact ⟨rfl, hb⟩
  have p1 : (500 < room) = False := eq_false h1
  by_cases h2 : 60 < N
  · have p2 : (60 < (N : Int)) = True := eq_true (by omega)
    have p2' : (60 < N) = True := eq_true h2
    clear h1 h2
    go_enter Tryd.func3, Tryd.ntmps3
    go_wp2_with fail
    refine (HA0.out _ (Below.refl _ _)).mono ?_; rintro e w2 ⟨rfl, hb⟩
    go_wp2_with fail
    go_ret
    exact ⟨rfl, hb⟩
  have p2 : (60 < (N : Int)) = False := eq_false (by omega)
  have p2' : (60 < N) = False := eq_false h2
  have HNl := Lib.hid hN
  obtain ⟨n, hn⟩ : ∃ n, clampR room = n := ⟨_, rfl⟩
  have hn65 : n ≤ 65536 := by rw [← hn]; exact clampR_le room
  have HO := Lib.hid (of_form room (.slice sv N cv) l n hn w HV.out)
  have HSL := Lib.hid (show (setOf room l).length = n by rw [setOf_len, hn])
  have HCl := Lib.hid (show (lst (List.replicate (clampR room) true)).length = n by rw [lst_all, hn])
  clear h1 h2 hn hN
  go_enter Tryd.func3, Tryd.ntmps3
  go_wp2_with fail
  refine HO.out.mono ?_; rintro e W1 ⟨a, q, c, a2, c2, rfl, hS, hX, hb1⟩
  generalize setOf room l = x at *
  have HB1 := Lib.hid hb1
  have hS2 := (hS.below (show Below W1.heap.size W1 (W1.alloc (.cells #[.int .i64 n, .slice a q c] 26)) by (repeat' (first | (with_reducible exact Below.refl _ _) | (with_reducible assumption) | (with_reducible refine below_drewN ?_ _) | (with_reducible refine Below.alloc ?_ ?_ _) | (with_reducible refine Below.drew ?_) | (with_reducible refine Below.setCell ?_ ?_ _) | go_size))))
  have HS1 := Lib.hid hS
  have HX1 := Lib.hid hX
  have HWi := Lib.hid (fun W (h : Below W1.heap.size W1 W) => with_form _ x i n HSL.out W (hS.below h))
  clear hS hX hb1 hS2
  go_wp2_with fail
  refine (HWi.out _ (by (repeat' (first | (with_reducible exact Below.refl _ _) | (with_reducible assumption) | (with_reducible refine below_drewN ?_ _) | (with_reducible refine Below.alloc ?_ ?_ _) | (with_reducible refine Below.drew ?_) | (with_reducible refine Below.setCell ?_ ?_ _) | go_size)))).mono ?_; rintro e W2 ⟨a5, q5, c5, rfl, hS5, hb2⟩
  have hp7 : W2.heap[W1.heap.size]? = some (.cells #[.int .i64 n, .slice a q c] 26) := obj_below (get_last rfl) hb2 (by simp)
  have hB2 : Below W1.heap.size W1 W2 := Below.trans (by (repeat' (first | (with_reducible exact Below.refl _ _) | (with_reducible assumption) | (with_reducible refine below_drewN ?_ _) | (with_reducible refine Below.alloc ?_ ?_ _) | (with_reducible refine Below.drew ?_) | (with_reducible refine Below.setCell ?_ ?_ _) | go_size))) (hb2.mono (by simp))
  obtain ⟨WB, hWB⟩ : ∃ WB, WB = W2.alloc (.cells #[.int .i64 n, .slice a5 q5 c5] 26) := ⟨_, rfl⟩
  have hb23 : Below W2.heap.size W2 WB := by rw [hWB]; exact by (repeat' (first | (with_reducible exact Below.refl _ _) | (with_reducible assumption) | (with_reducible refine below_drewN ?_ _) | (with_reducible refine Below.alloc ?_ ?_ _) | (with_reducible refine Below.drew ?_) | (with_reducible refine Below.setCell ?_ ?_ _) | go_size))
  have h7 := obj_below hp7 hb23 (heap_lt hp7)
  have h9 : WB.heap[W2.heap.size]? = some (.cells #[.int .i64 n, .slice a5 q5 c5] 26) := by rw [hWB]; exact get_last rfl
  have hBW : Below W1.heap.size W1 WB := hB2.trans (hb23.mono hB2.size)
  have c70 : WB.cell? ⟨W1.heap.size, 0, none⟩ = some (.int .i64 n) := obj_cell h7 (i := 0) rfl
  have c71 : WB.cell? ⟨W1.heap.size, 1, none⟩ = some (.slice a q c) := obj_cell h7 (i := 1) rfl
  have c90 : WB.cell? ⟨W2.heap.size, 0, none⟩ = some (.int .i64 n) := obj_cell h9 (i := 0) rfl
  have c91 : WB.cell? ⟨W2.heap.size, 1, none⟩ = some (.slice a5 q5 c5) := obj_cell h9 (i := 1) rfl
  have z7 := heap_lt h7
  have z9 := heap_lt h9
  have HBB := Lib.hid (HB1.out.trans (hBW.mono HB1.out.size))
  have hTB := HT.out.below HBB.out
  have hSB := HS1.out.below hBW
  have hXB := HX1.out.below boolR_stable hBW
  have h5B := hS5.below hb23
  have HL1 := Lib.hid (fun W (h : Below WB.heap.size WB W) => law06_like _ _ x W (hSB.below h) (hXB.below boolR_stable h) (hTB.below h))
  have HW2 := Lib.hid (fun W (h : Below WB.heap.size WB W) => ref06_With _ x i W (hXB.below boolR_stable h) (by rw [HSL.out]; exact hn65))
  have HL2 := Lib.hid (fun W u (h : Below WB.heap.size WB W) (hu : RowR 1 boolR W u (withB x i)) => law06_like _ u (withB x i) W (h5B.below h) hu (hTB.below h))
  have HH1 := Lib.hid (fun W (h : Below WB.heap.size WB W) => bits_Has _ x i W (hSB.below h))
  have HH2 := Lib.hid (fun W (h : Below WB.heap.size WB W) => (ref06_Has _ x i W (hXB.below boolR_stable h)).mono (fun e w' (h : e = _ ∧ w' = _) => (⟨h.1, h.2 ▸ Below.refl _ _⟩ : e = _ ∧ Below W.heap.size W w')))
  have HA := Lib.hid (fun W (h : Below WB.heap.size WB W) => HA0.out W (HBB.out.trans (h.mono HBB.out.size)))
  have HWB := Lib.hid hWB
  clear hWB hb23 h7 h9 hBW hTB hSB hXB h5B hS5 hb2 hp7 hB2 HS1 HX1 HWi HO HV
  generalize hasB x i = hz at *
  have eh : (hz == hz) = true := by simp
  have en : ((n : Int) == (n : Int)) = true := by simp
  go_wp2_with fail
  rw [← HWB.out]
  refine wp_region_held_drew (S := (fun w' => Below WB.heap.size WB w')) (by kernel_rfl) ?_ (fun hHeld => ?_)
  · (try dsimp only); first | assumption | exact Below.alloc hHeld hHeld.size _ | exact (Below.refl _ _).drew | exact Below.drew (Below.refl _ _) | exact Below_drewN _ _ _ | exact Below.refl _ _ | (trace_state; fail)
  refine wpAnyH_take (i := 0) (oi := { dst := some 27, op := Op.load 26 (Operand.tmp 7), type := 26, pos := _, after := #[], guard := none }) (v := ?_) rfl (by kernel_rfl) (by kernel_rfl) (by kernel_rfl) (fun _ _ _ h => h) (Or.inl ⟨by rfl, ?_⟩) (by assumption) ?_
  rotate_left
  · intro wt hSw; (try dsimp only at hSw); have c70 := cellB hSw c70 z7; have c71 := cellB hSw c71 z7; have c90 := cellB hSw c90 z9; have c91 := cellB hSw c91 z9; first | (go_simp; done) | (go_simp; with_reducible rfl) | (trace_state; fail)
  try simp only [Act.put, List.setIfInBounds_toArray, List.set_cons_zero, List.set_cons_succ]
  refine wpAnyH_take (i := 1) (oi := { dst := some 28, op := Op.move (Operand.tmp 8), type := 27, pos := _, after := #[], guard := none }) (v := ?_) rfl (by kernel_rfl) (by kernel_rfl) (by kernel_rfl) (fun _ _ _ h => h) (Or.inl ⟨by rfl, ?_⟩) (by assumption) ?_
  rotate_left
  · intro wt hSw; (try dsimp only at hSw); have c70 := cellB hSw c70 z7; have c71 := cellB hSw c71 z7; have c90 := cellB hSw c90 z9; have c91 := cellB hSw c91 z9; first | (go_simp; done) | (go_simp; with_reducible rfl) | (trace_state; fail)
  try simp only [Act.put, List.setIfInBounds_toArray, List.set_cons_zero, List.set_cons_succ]
  refine wpAnyH_ready (rs := [2]) (by kernel_rfl) (by simp) ?_
  refine AllReadyH.cons (o := { dst := some 29, op := Op.call { callee := Callee.value (Operand.func 8), args := #[Operand.tmp 27, Operand.tmp 28], argTypes := #[26, 27] }, type := 4, pos := _, after := #[{ on := 0, ground := Ground.data }, { on := 1, ground := Ground.data }], guard := none }) rfl (fun K hK => ?_) AllReadyH.nil
  go_simp
  refine (HL1.out _ hHeld).mono ?_; rintro e w2 ⟨rfl, hb⟩; have hHeld := hHeld.trans (hb.mono hHeld.size)
  go_wp2_with fail
  refine hK.out _ _ ?_ (fun hHeld => ?_)
  · (try dsimp only); first | assumption | exact Below.alloc hHeld hHeld.size _ | exact (Below.refl _ _).drew | exact Below.drew (Below.refl _ _) | exact Below_drewN _ _ _ | exact Below.refl _ _ | (trace_state; fail)
  clear hK K
  try simp only [Act.put, List.setIfInBounds_toArray, List.set_cons_zero, List.set_cons_succ]
  refine wpAnyH_take (i := 3) (oi := { dst := some 30, op := Op.move (Operand.tmp 29), type := 4, pos := _, after := #[{ on := 2, ground := Ground.data }, { on := 2, ground := Ground.chain }], guard := none }) (v := ?_) rfl (by kernel_rfl) (by kernel_rfl) (by kernel_rfl) (fun _ _ _ h => h) (Or.inl ⟨by rfl, ?_⟩) (by assumption) ?_
  rotate_left
  · intro wt hSw; (try dsimp only at hSw); have c70 := cellB hSw c70 z7; have c71 := cellB hSw c71 z7; have c90 := cellB hSw c90 z9; have c91 := cellB hSw c91 z9; first | (go_simp; done) | (go_simp; with_reducible rfl) | (trace_state; fail)
  try simp only [Act.put, List.setIfInBounds_toArray, List.set_cons_zero, List.set_cons_succ]
  refine wpAnyH_take (i := 4) (oi := { dst := some 31, op := Op.load 26 (Operand.tmp 9), type := 26, pos := _, after := #[{ on := 3, ground := Ground.guard }], guard := some (3, true) }) (v := ?_) rfl (by kernel_rfl) (by kernel_rfl) (by kernel_rfl) (fun _ _ _ h => h) (Or.inl ⟨by rfl, ?_⟩) (by assumption) ?_
  rotate_left
  · intro wt hSw; (try dsimp only at hSw); have c70 := cellB hSw c70 z7; have c71 := cellB hSw c71 z7; have c90 := cellB hSw c90 z9; have c91 := cellB hSw c91 z9; first | (go_simp; done) | (go_simp; with_reducible rfl) | (trace_state; fail)
  try simp only [Act.put, List.setIfInBounds_toArray, List.set_cons_zero, List.set_cons_succ]
  refine wpAnyH_take (i := 5) (oi := { dst := some 32, op := Op.move (Operand.tmp 8), type := 27, pos := _, after := #[{ on := 3, ground := Ground.guard }], guard := some (3, true) }) (v := ?_) rfl (by kernel_rfl) (by kernel_rfl) (by kernel_rfl) (fun _ _ _ h => h) (Or.inl ⟨by rfl, ?_⟩) (by assumption) ?_
  rotate_left
  · intro wt hSw; (try dsimp only at hSw); have c70 := cellB hSw c70 z7; have c71 := cellB hSw c71 z7; have c90 := cellB hSw c90 z9; have c91 := cellB hSw c91 z9; first | (go_simp; done) | (go_simp; with_reducible rfl) | (trace_state; fail)
  try simp only [Act.put, List.setIfInBounds_toArray, List.set_cons_zero, List.set_cons_succ]
  refine wpAnyH_take (i := 6) (oi := { dst := some 33, op := Op.move (Operand.tmp 2), type := 3, pos := _, after := #[{ on := 3, ground := Ground.guard }], guard := some (3, true) }) (v := ?_) rfl (by kernel_rfl) (by kernel_rfl) (by kernel_rfl) (fun _ _ _ h => h) (Or.inl ⟨by rfl, ?_⟩) (by assumption) ?_
  rotate_left
  · intro wt hSw; (try dsimp only at hSw); have c70 := cellB hSw c70 z7; have c71 := cellB hSw c71 z7; have c90 := cellB hSw c90 z9; have c91 := cellB hSw c91 z9; first | (go_simp; done) | (go_simp; with_reducible rfl) | (trace_state; fail)
  try simp only [Act.put, List.setIfInBounds_toArray, List.set_cons_zero, List.set_cons_succ]
  refine wpAnyH_ready (rs := [7]) (by kernel_rfl) (by simp) ?_
  refine AllReadyH.cons (o := { dst := some 34, op := Op.call { callee := Callee.value (Operand.func 9), args := #[Operand.tmp 32, Operand.tmp 33], argTypes := #[27, 3] }, type := 27, pos := _, after := #[{ on := 5, ground := Ground.data }, { on := 6, ground := Ground.data }, { on := 3, ground := Ground.chain }, { on := 3, ground := Ground.guard }], guard := some (3, true) }) rfl (fun K hK => ?_) AllReadyH.nil
  go_simp
  refine (HW2.out _ hHeld).mono ?_; rintro e w3 ⟨r3, rfl, hr3, hb⟩; have hb3 := hb; have hHeld := hHeld.trans (hb.mono hHeld.size)
  go_wp2_with fail
  refine hK.out _ _ ?_ (fun hHeld => ?_)
  · (try dsimp only); first | assumption | exact Below.alloc hHeld hHeld.size _ | exact (Below.refl _ _).drew | exact Below.drew (Below.refl _ _) | exact Below_drewN _ _ _ | exact Below.refl _ _ | (trace_state; fail)
  clear hK K
  try simp only [Act.put, List.setIfInBounds_toArray, List.set_cons_zero, List.set_cons_succ]
  refine wpAnyH_ready (rs := [8]) (by kernel_rfl) (by simp) ?_
  refine AllReadyH.cons (o := { dst := some 35, op := Op.call { callee := Callee.value (Operand.func 8), args := #[Operand.tmp 31, Operand.tmp 34], argTypes := #[26, 27] }, type := 4, pos := _, after := #[{ on := 4, ground := Ground.data }, { on := 7, ground := Ground.data }, { on := 7, ground := Ground.chain }, { on := 3, ground := Ground.guard }], guard := some (3, true) }) rfl (fun K hK => ?_) AllReadyH.nil
  go_simp
  refine (HL2.out _ _ hHeld hr3).mono ?_; rintro e w4 ⟨rfl, hb⟩; have hHeld := hHeld.trans (hb.mono hHeld.size)
  go_wp2_with fail
  refine hK.out _ _ ?_ (fun hHeld => ?_)
  · (try dsimp only); first | assumption | exact Below.alloc hHeld hHeld.size _ | exact (Below.refl _ _).drew | exact Below.drew (Below.refl _ _) | exact Below_drewN _ _ _ | exact Below.refl _ _ | (trace_state; fail)
  clear hK K
  try simp only [Act.put, List.setIfInBounds_toArray, List.set_cons_zero, List.set_cons_succ]
  refine wpAnyH_take (i := 9) (oi := { dst := some 36, op := Op.pick (Operand.tmp 30) (Operand.tmp 35) (Operand.const (Value.bool false)), type := 4, pos := _, after := #[{ on := 3, ground := Ground.data }, { on := 8, ground := Ground.data }], guard := none }) (v := ?_) rfl (by kernel_rfl) (by kernel_rfl) (by kernel_rfl) (fun _ _ _ h => h) (Or.inl ⟨by rfl, ?_⟩) (by assumption) ?_
  rotate_left
  · intro wt hSw; (try dsimp only at hSw); have c70 := cellB hSw c70 z7; have c71 := cellB hSw c71 z7; have c90 := cellB hSw c90 z9; have c91 := cellB hSw c91 z9; first | (go_simp; done) | (go_simp; with_reducible rfl) | (trace_state; fail)
  try simp only [Act.put, List.setIfInBounds_toArray, List.set_cons_zero, List.set_cons_succ]
  refine wpAnyH_take (i := 10) (oi := { dst := some 37, op := Op.move (Operand.tmp 36), type := 4, pos := _, after := #[{ on := 9, ground := Ground.data }, { on := 8, ground := Ground.chain }], guard := none }) (v := ?_) rfl (by kernel_rfl) (by kernel_rfl) (by kernel_rfl) (fun _ _ _ h => h) (Or.inl ⟨by rfl, ?_⟩) (by assumption) ?_
  rotate_left
  · intro wt hSw; (try dsimp only at hSw); have c70 := cellB hSw c70 z7; have c71 := cellB hSw c71 z7; have c90 := cellB hSw c90 z9; have c91 := cellB hSw c91 z9; first | (go_simp; done) | (go_simp; with_reducible rfl) | (trace_state; fail)
  try simp only [Act.put, List.setIfInBounds_toArray, List.set_cons_zero, List.set_cons_succ]
  refine wpAnyH_take (i := 11) (oi := { dst := some 38, op := Op.load 26 (Operand.tmp 7), type := 26, pos := _, after := #[{ on := 10, ground := Ground.guard }], guard := some (10, true) }) (v := ?_) rfl (by kernel_rfl) (by kernel_rfl) (by kernel_rfl) (fun _ _ _ h => h) (Or.inl ⟨by rfl, ?_⟩) (by assumption) ?_
  rotate_left
  · intro wt hSw; (try dsimp only at hSw); have c70 := cellB hSw c70 z7; have c71 := cellB hSw c71 z7; have c90 := cellB hSw c90 z9; have c91 := cellB hSw c91 z9; first | (go_simp; done) | (go_simp; with_reducible rfl) | (trace_state; fail)
  try simp only [Act.put, List.setIfInBounds_toArray, List.set_cons_zero, List.set_cons_succ]
  refine wpAnyH_take (i := 12) (oi := { dst := some 39, op := Op.move (Operand.tmp 2), type := 3, pos := _, after := #[{ on := 10, ground := Ground.guard }], guard := some (10, true) }) (v := ?_) rfl (by kernel_rfl) (by kernel_rfl) (by kernel_rfl) (fun _ _ _ h => h) (Or.inl ⟨by rfl, ?_⟩) (by assumption) ?_
  rotate_left
  · intro wt hSw; (try dsimp only at hSw); have c70 := cellB hSw c70 z7; have c71 := cellB hSw c71 z7; have c90 := cellB hSw c90 z9; have c91 := cellB hSw c91 z9; first | (go_simp; done) | (go_simp; with_reducible rfl) | (trace_state; fail)
  try simp only [Act.put, List.setIfInBounds_toArray, List.set_cons_zero, List.set_cons_succ]
  refine wpAnyH_take (i := 14) (oi := { dst := some 41, op := Op.move (Operand.tmp 8), type := 27, pos := _, after := #[{ on := 10, ground := Ground.guard }], guard := some (10, true) }) (v := ?_) rfl (by kernel_rfl) (by kernel_rfl) (by kernel_rfl) (fun _ _ _ h => h) (Or.inl ⟨by rfl, ?_⟩) (by assumption) ?_
  rotate_left
  · intro wt hSw; (try dsimp only at hSw); have c70 := cellB hSw c70 z7; have c71 := cellB hSw c71 z7; have c90 := cellB hSw c90 z9; have c91 := cellB hSw c91 z9; first | (go_simp; done) | (go_simp; with_reducible rfl) | (trace_state; fail)
  try simp only [Act.put, List.setIfInBounds_toArray, List.set_cons_zero, List.set_cons_succ]
  refine wpAnyH_take (i := 15) (oi := { dst := some 42, op := Op.move (Operand.tmp 2), type := 3, pos := _, after := #[{ on := 10, ground := Ground.guard }], guard := some (10, true) }) (v := ?_) rfl (by kernel_rfl) (by kernel_rfl) (by kernel_rfl) (fun _ _ _ h => h) (Or.inl ⟨by rfl, ?_⟩) (by assumption) ?_
  rotate_left
  · intro wt hSw; (try dsimp only at hSw); have c70 := cellB hSw c70 z7; have c71 := cellB hSw c71 z7; have c90 := cellB hSw c90 z9; have c91 := cellB hSw c91 z9; first | (go_simp; done) | (go_simp; with_reducible rfl) | (trace_state; fail)
  try simp only [Act.put, List.setIfInBounds_toArray, List.set_cons_zero, List.set_cons_succ]
  refine wpAnyH_ready (rs := [13]) (by kernel_rfl) (by simp) ?_
  refine AllReadyH.cons (o := { dst := some 40, op := Op.call { callee := Callee.value (Operand.func 10), args := #[Operand.tmp 38, Operand.tmp 39], argTypes := #[26, 3] }, type := 4, pos := _, after := #[{ on := 11, ground := Ground.data }, { on := 12, ground := Ground.data }, { on := 10, ground := Ground.chain }, { on := 10, ground := Ground.guard }], guard := some (10, true) }) rfl (fun K hK => ?_) AllReadyH.nil
  go_simp
  refine (HH1.out _ hHeld).mono ?_; rintro e w5 ⟨rfl, hb⟩; have hHeld := hHeld.trans (hb.mono hHeld.size)
  go_wp2_with fail
  refine hK.out _ _ ?_ (fun hHeld => ?_)
  · (try dsimp only); first | assumption | exact Below.alloc hHeld hHeld.size _ | exact (Below.refl _ _).drew | exact Below.drew (Below.refl _ _) | exact Below_drewN _ _ _ | exact Below.refl _ _ | (trace_state; fail)
  clear hK K
  try simp only [Act.put, List.setIfInBounds_toArray, List.set_cons_zero, List.set_cons_succ]
  refine wpAnyH_ready (rs := [16]) (by kernel_rfl) (by simp) ?_
  refine AllReadyH.cons (o := { dst := some 43, op := Op.call { callee := Callee.value (Operand.func 11), args := #[Operand.tmp 41, Operand.tmp 42], argTypes := #[27, 3] }, type := 4, pos := _, after := #[{ on := 14, ground := Ground.data }, { on := 15, ground := Ground.data }, { on := 13, ground := Ground.chain }, { on := 10, ground := Ground.guard }], guard := some (10, true) }) rfl (fun K hK => ?_) AllReadyH.nil
  go_simp
  refine (HH2.out _ hHeld).mono ?_; rintro e w6 ⟨rfl, hb⟩; have hHeld := hHeld.trans (hb.mono hHeld.size)
  go_wp2_with fail
  refine hK.out _ _ ?_ (fun hHeld => ?_)
  · (try dsimp only); first | assumption | exact Below.alloc hHeld hHeld.size _ | exact (Below.refl _ _).drew | exact Below.drew (Below.refl _ _) | exact Below_drewN _ _ _ | exact Below.refl _ _ | (trace_state; fail)
  clear hK K
  try simp only [Act.put, List.setIfInBounds_toArray, List.set_cons_zero, List.set_cons_succ]
  refine wpAnyH_take (i := 17) (oi := { dst := some 44, op := Op.binOp BinOp.eql 4 (Operand.tmp 40) (Operand.tmp 43) 4, type := 4, pos := _, after := #[{ on := 13, ground := Ground.data }, { on := 16, ground := Ground.data }, { on := 10, ground := Ground.guard }], guard := some (10, true) }) (v := ?_) rfl (by kernel_rfl) (by kernel_rfl) (by kernel_rfl) (fun _ _ _ h => h) (Or.inl ⟨by rfl, ?_⟩) (by assumption) ?_
  rotate_left
  · intro wt hSw; (try dsimp only at hSw); have c70 := cellB hSw c70 z7; have c71 := cellB hSw c71 z7; have c90 := cellB hSw c90 z9; have c91 := cellB hSw c91 z9; first | (go_simp; done) | (go_simp; with_reducible rfl) | (trace_state; fail)
  try simp only [Act.put, List.setIfInBounds_toArray, List.set_cons_zero, List.set_cons_succ]
  refine wpAnyH_take (i := 18) (oi := { dst := some 45, op := Op.pick (Operand.tmp 37) (Operand.tmp 44) (Operand.const (Value.bool false)), type := 4, pos := _, after := #[{ on := 10, ground := Ground.data }, { on := 17, ground := Ground.data }], guard := none }) (v := ?_) rfl (by kernel_rfl) (by kernel_rfl) (by kernel_rfl) (fun _ _ _ h => h) (Or.inl ⟨by rfl, ?_⟩) (by assumption) ?_
  rotate_left
  · intro wt hSw; (try dsimp only at hSw); have c70 := cellB hSw c70 z7; have c71 := cellB hSw c71 z7; have c90 := cellB hSw c90 z9; have c91 := cellB hSw c91 z9; first | (go_simp; done) | (go_simp; with_reducible rfl) | (trace_state; fail)
  try simp only [Act.put, List.setIfInBounds_toArray, List.set_cons_zero, List.set_cons_succ]
  refine wpAnyH_take (i := 19) (oi := { dst := some 46, op := Op.move (Operand.tmp 45), type := 4, pos := _, after := #[{ on := 18, ground := Ground.data }, { on := 16, ground := Ground.chain }], guard := none }) (v := ?_) rfl (by kernel_rfl) (by kernel_rfl) (by kernel_rfl) (fun _ _ _ h => h) (Or.inl ⟨by rfl, ?_⟩) (by assumption) ?_
  rotate_left
  · intro wt hSw; (try dsimp only at hSw); have c70 := cellB hSw c70 z7; have c71 := cellB hSw c71 z7; have c90 := cellB hSw c90 z9; have c91 := cellB hSw c91 z9; first | (go_simp; done) | (go_simp; with_reducible rfl) | (trace_state; fail)
  try simp only [Act.put, List.setIfInBounds_toArray, List.set_cons_zero, List.set_cons_succ]
  refine wpAnyH_take (i := 20) (oi := { dst := some 47, op := Op.move (Operand.tmp 0), type := 3, pos := _, after := #[{ on := 19, ground := Ground.guard }], guard := some (19, true) }) (v := ?_) rfl (by kernel_rfl) (by kernel_rfl) (by kernel_rfl) (fun _ _ _ h => h) (Or.inl ⟨by rfl, ?_⟩) (by assumption) ?_
  rotate_left
  · intro wt hSw; (try dsimp only at hSw); have c70 := cellB hSw c70 z7; have c71 := cellB hSw c71 z7; have c90 := cellB hSw c90 z9; have c91 := cellB hSw c91 z9; first | (go_simp; done) | (go_simp; with_reducible rfl) | (trace_state; fail)
  try simp only [Act.put, List.setIfInBounds_toArray, List.set_cons_zero, List.set_cons_succ]
  refine wpAnyH_take (i := 23) (oi := { dst := some 50, op := Op.move (Operand.tmp 8), type := 27, pos := _, after := #[{ on := 19, ground := Ground.guard }], guard := some (19, true) }) (v := ?_) rfl (by kernel_rfl) (by kernel_rfl) (by kernel_rfl) (fun _ _ _ h => h) (Or.inl ⟨by rfl, ?_⟩) (by assumption) ?_
  rotate_left
  · intro wt hSw; (try dsimp only at hSw); have c70 := cellB hSw c70 z7; have c71 := cellB hSw c71 z7; have c90 := cellB hSw c90 z9; have c91 := cellB hSw c91 z9; first | (go_simp; done) | (go_simp; with_reducible rfl) | (trace_state; fail)
  try simp only [Act.put, List.setIfInBounds_toArray, List.set_cons_zero, List.set_cons_succ]
  refine wpAnyH_take (i := 24) (oi := { dst := some 51, op := Op.call { callee := Callee.builtin Builtin.len, args := #[Operand.tmp 50], argTypes := #[27] }, type := 3, pos := _, after := #[{ on := 23, ground := Ground.data }, { on := 19, ground := Ground.guard }], guard := some (19, true) }) (v := ?_) rfl (by kernel_rfl) (by kernel_rfl) (by kernel_rfl) (fun _ _ _ h => h) (Or.inl ⟨by rfl, ?_⟩) (by assumption) ?_
  rotate_left
  · intro wt hSw; (try dsimp only at hSw); have c70 := cellB hSw c70 z7; have c71 := cellB hSw c71 z7; have c90 := cellB hSw c90 z9; have c91 := cellB hSw c91 z9; first | (go_simp; done) | (go_simp; with_reducible rfl) | (trace_state; fail)
  try simp only [Act.put, List.setIfInBounds_toArray, List.set_cons_zero, List.set_cons_succ]
  refine wpAnyH_ready (rs := [21]) (by kernel_rfl) (by simp) ?_
  refine AllReadyH.cons (o := { dst := some 48, op := Op.call { callee := Callee.value (Operand.func 12), args := #[Operand.tmp 47], argTypes := #[3] }, type := 26, pos := _, after := #[{ on := 20, ground := Ground.data }, { on := 19, ground := Ground.chain }, { on := 19, ground := Ground.guard }], guard := some (19, true) }) rfl (fun K hK => ?_) AllReadyH.nil
  go_simp
  refine (bits_All room _).mono ?_; rintro e w7 ⟨v7, rfl, hs7, hb⟩; have hHeld7 := hHeld; have hHeld := hHeld.trans (hb.mono hHeld.size)
  go_wp2_with fail
  refine hK.out _ _ ?_ (fun hHeld => ?_)
  · (try dsimp only); first | assumption | exact Below.alloc hHeld hHeld.size _ | exact (Below.refl _ _).drew | exact Below.drew (Below.refl _ _) | exact Below_drewN _ _ _ | exact Below.refl _ _ | (trace_state; fail)
  clear hK K
  try simp only [Act.put, List.setIfInBounds_toArray, List.set_cons_zero, List.set_cons_succ]
  refine wpAnyH_ready (rs := [22]) (by kernel_rfl) (by simp) ?_
  refine AllReadyH.cons (o := { dst := some 49, op := Op.call { callee := Callee.value (Operand.func 13), args := #[Operand.tmp 48], argTypes := #[26] }, type := 3, pos := _, after := #[{ on := 21, ground := Ground.data }, { on := 21, ground := Ground.chain }, { on := 19, ground := Ground.guard }], guard := some (19, true) }) rfl (fun K hK => ?_) AllReadyH.nil
  go_simp
  refine (bits_Count _ _ _ hs7).mono ?_; rintro e w8 ⟨rfl, hb⟩; rw [HCl.out]; have hHeld := hHeld.trans (hb.mono hHeld.size)
  go_wp2_with fail
  refine hK.out _ _ ?_ (fun hHeld => ?_)
  · (try dsimp only); first | assumption | exact Below.alloc hHeld hHeld.size _ | exact (Below.refl _ _).drew | exact Below.drew (Below.refl _ _) | exact Below_drewN _ _ _ | exact Below.refl _ _ | (trace_state; fail)
  clear hK K
  try simp only [Act.put, List.setIfInBounds_toArray, List.set_cons_zero, List.set_cons_succ]
  refine wpAnyH_take (i := 25) (oi := { dst := some 52, op := Op.binOp BinOp.eql 3 (Operand.tmp 49) (Operand.tmp 51) 3, type := 4, pos := _, after := #[{ on := 22, ground := Ground.data }, { on := 24, ground := Ground.data }, { on := 19, ground := Ground.guard }], guard := some (19, true) }) (v := ?_) rfl (by kernel_rfl) (by kernel_rfl) (by kernel_rfl) (fun _ _ _ h => h) (Or.inl ⟨by rfl, ?_⟩) (by assumption) ?_
  rotate_left
  · intro wt hSw; (try dsimp only at hSw); have c70 := cellB hSw c70 z7; have c71 := cellB hSw c71 z7; have c90 := cellB hSw c90 z9; have c91 := cellB hSw c91 z9; first | (go_simp; done) | (go_simp; with_reducible rfl) | (trace_state; fail)
  try simp only [Act.put, List.setIfInBounds_toArray, List.set_cons_zero, List.set_cons_succ]
  refine wpAnyH_take (i := 26) (oi := { dst := some 53, op := Op.pick (Operand.tmp 46) (Operand.tmp 52) (Operand.const (Value.bool false)), type := 4, pos := _, after := #[{ on := 19, ground := Ground.data }, { on := 25, ground := Ground.data }], guard := none }) (v := ?_) rfl (by kernel_rfl) (by kernel_rfl) (by kernel_rfl) (fun _ _ _ h => h) (Or.inl ⟨by rfl, ?_⟩) (by assumption) ?_
  rotate_left
  · intro wt hSw; (try dsimp only at hSw); have c70 := cellB hSw c70 z7; have c71 := cellB hSw c71 z7; have c90 := cellB hSw c90 z9; have c91 := cellB hSw c91 z9; first | (go_simp; done) | (go_simp; with_reducible rfl) | (trace_state; fail)
  try simp only [Act.put, List.setIfInBounds_toArray, List.set_cons_zero, List.set_cons_succ]
  refine wpAnyH_take (i := 27) (oi := { dst := some 54, op := Op.move (Operand.tmp 53), type := 4, pos := _, after := #[{ on := 26, ground := Ground.data }, { on := 22, ground := Ground.chain }], guard := none }) (v := ?_) rfl (by kernel_rfl) (by kernel_rfl) (by kernel_rfl) (fun _ _ _ h => h) (Or.inl ⟨by rfl, ?_⟩) (by assumption) ?_
  rotate_left
  · intro wt hSw; (try dsimp only at hSw); have c70 := cellB hSw c70 z7; have c71 := cellB hSw c71 z7; have c90 := cellB hSw c90 z9; have c91 := cellB hSw c91 z9; first | (go_simp; done) | (go_simp; with_reducible rfl) | (trace_state; fail)
  try simp only [Act.put, List.setIfInBounds_toArray, List.set_cons_zero, List.set_cons_succ]
  refine wpAnyH_ready (rs := [28]) (by kernel_rfl) (by simp) ?_
  refine AllReadyH.cons (o := { dst := some 55, op := Op.call { callee := Callee.value (Operand.func 5), args := #[], argTypes := #[] }, type := 4, pos := _, after := #[{ on := 27, ground := Ground.chain }, { on := 27, ground := Ground.guard }], guard := some (27, true) }) rfl (fun K hK => ?_) AllReadyH.nil
  go_simp
  refine (HA.out _ hHeld).mono ?_; rintro e w9 ⟨rfl, hb⟩; have hHeld := hHeld.trans (hb.mono hHeld.size)
  go_wp2_with fail
  refine hK.out _ _ ?_ (fun hHeld => ?_)
  · (try dsimp only); first | assumption | exact Below.alloc hHeld hHeld.size _ | exact (Below.refl _ _).drew | exact Below.drew (Below.refl _ _) | exact Below_drewN _ _ _ | exact Below.refl _ _ | (trace_state; fail)
  clear hK K
  try simp only [Act.put, List.setIfInBounds_toArray, List.set_cons_zero, List.set_cons_succ]
  refine wpAnyH_take (i := 29) (oi := { dst := some 56, op := Op.pick (Operand.tmp 54) (Operand.tmp 55) (Operand.const (Value.bool false)), type := 4, pos := _, after := #[{ on := 27, ground := Ground.data }, { on := 28, ground := Ground.data }], guard := none }) (v := ?_) rfl (by kernel_rfl) (by kernel_rfl) (by kernel_rfl) (fun _ _ _ h => h) (Or.inl ⟨by rfl, ?_⟩) (by assumption) ?_
  rotate_left
  · intro wt hSw; (try dsimp only at hSw); have c70 := cellB hSw c70 z7; have c71 := cellB hSw c71 z7; have c90 := cellB hSw c90 z9; have c91 := cellB hSw c91 z9; first | (go_simp; done) | (go_simp; with_reducible rfl) | (trace_state; fail)
  try simp only [Act.put, List.setIfInBounds_toArray, List.set_cons_zero, List.set_cons_succ]
  refine wpAnyH_take (i := 30) (oi := { dst := some 6, op := Op.assign (Operand.tmp 56), type := 4, pos := _, after := #[{ on := 29, ground := Ground.data }, { on := 28, ground := Ground.chain }, { on := 0, ground := Ground.phase }, { on := 1, ground := Ground.phase }, { on := 2, ground := Ground.phase }, { on := 3, ground := Ground.phase }, { on := 4, ground := Ground.phase }, { on := 5, ground := Ground.phase }, { on := 6, ground := Ground.phase }, { on := 7, ground := Ground.phase }, { on := 8, ground := Ground.phase }, { on := 9, ground := Ground.phase }, { on := 10, ground := Ground.phase }, { on := 11, ground := Ground.phase }, { on := 12, ground := Ground.phase }, { on := 13, ground := Ground.phase }, { on := 14, ground := Ground.phase }, { on := 15, ground := Ground.phase }, { on := 16, ground := Ground.phase }, { on := 17, ground := Ground.phase }, { on := 18, ground := Ground.phase }, { on := 19, ground := Ground.phase }, { on := 20, ground := Ground.phase }, { on := 21, ground := Ground.phase }, { on := 22, ground := Ground.phase }, { on := 23, ground := Ground.phase }, { on := 24, ground := Ground.phase }, { on := 25, ground := Ground.phase }, { on := 26, ground := Ground.phase }, { on := 27, ground := Ground.phase }, { on := 28, ground := Ground.phase }, { on := 29, ground := Ground.phase }], guard := none }) (v := ?_) rfl (by kernel_rfl) (by kernel_rfl) (by kernel_rfl) (fun _ _ _ h => h) (Or.inl ⟨by rfl, ?_⟩) (by assumption) ?_
  rotate_left
  · intro wt hSw; (try dsimp only at hSw); have c70 := cellB hSw c70 z7; have c71 := cellB hSw c71 z7; have c90 := cellB hSw c90 z9; have c91 := cellB hSw c91 z9; first | (go_simp; done) | (go_simp; with_reducible rfl) | (trace_state; fail)
  try simp only [Act.put, List.setIfInBounds_toArray, List.set_cons_zero, List.set_cons_succ]
  refine wpAnyH_done (by kernel_rfl) ?_ _
  go_wp2_with fail
  go_ret
  exact ⟨rfl, HBB.out.trans (hHeld.mono HBB.out.size)⟩
end Go.Proofs.YtochjlllfbmhpaaDoor
