/- Layer 12: the answer's line. -/
import Derived.Test.YtaeaiaamhgcmbaaDoorOpL
import Derived.Deep.RegionHeld3
namespace Go.Proofs.YtaeaiaamhgcmbaaDoor
open Go.RowKit
set_option linter.unusedSimpArgs false
set_option linter.unusedVariables false
theorem ba_assoc (a b c : ByteArray) : a ++ (b ++ c) = a ++ b ++ c := by
  apply ByteArray.ext
  simp [Array.append_assoc]
theorem oAB_ge (n : Nat) : 0 ≤ oA n ∧ 0 ≤ oB n := by
  by_cases h : n ≤ 37
  · have hall : ∀ m : Fin 38, 0 ≤ oA (m.1 : Int) ∧ 0 ≤ oB (m.1 : Int) := by decide +kernel
    exact hall ⟨n, by omega⟩
  · obtain ⟨h1, h2, _⟩ := o_no (n := (n : Int)) (by omega)
    rw [h1, h2]; decide
theorem ref12_Words (w : World) : Calls Tryd.prog 32 #[] w fun e w' => e = .returned (.slice (some ⟨w.heap.size, 0, none⟩) 38 38) ∧ w' = w.alloc (.cells wordsV.toArray 9) := by
  go_enter Tryd.func32, Tryd.ntmps32
  go_wp2
  go_ret
  exact ⟨rfl, rfl⟩
theorem words_cell {W w' : World} (h : w' = W.alloc (.cells wordsV.toArray 9)) (n : Nat) (hn : n ≤ 37) : w'.cell? ⟨W.heap.size, n, none⟩ = some (.string (oW n)) := by
  rw [h]
  refine cell_new W _ _ _ n ?_
  have hall : ∀ m : Fin 38, wordsV.toArray[m.1]? = some (.string (oW (m.1 : Int))) := by
    intro m
    have := m.2
    obtain h | h | h | h | h | h | h | h | h | h | h | h | h | h | h | h | h | h | h | h | h | h | h | h | h | h | h | h | h | h | h | h | h | h | h | h | h | h := o38 (n := (m.1 : Int)) (by omega)
    all_goals
      rw [h]
      have e : m.1 = (m.1 : Int).toNat := by omega
      rw [e, h]
      rfl
  exact hall ⟨n, by omega⟩
set_option maxHeartbeats 2000000 in
theorem ref12_Line (o a b : Int) (ha : -9223372036854775808 ≤ a ∧ a ≤ 9223372036854775807) (hb : -9223372036854775808 ≤ b ∧ b ≤ 9223372036854775807) (w : World) : Calls Tryd.prog 20 #[.agg #[.int .i64 o, .int .i64 a, .int .i64 b]] w fun e w' => e = .returned (.string (oLine o a b)) ∧ Below w.heap.size w w' := by
  have mc := @more_cell
  have za := prS_sz ha
  have zb := prS_sz hb
  have HA := Lib.hid ha
  have HB := Lib.hid hb
  cases hr : oRight o a b
  · have HL := Lib.hid (oLine_no hr)
    have hR := @ref12_Right o a b
    rw [hr] at hR
    go_enter Tryd.func20, Tryd.ntmps20
    go_wp2_with fail
    refine (hR _).mono ?_; rintro e w1 ⟨rfl, hb1⟩
    obtain ⟨l, d, rfl⟩ := more_of hb1
    clear hb1
    go_wp2_with fail
    go_ret
    exact ⟨by rw [HL.out]; rfl, by (repeat' (first | (with_reducible exact Below.refl _ _) | (with_reducible assumption) | (with_reducible refine more_below ?_ ?_ _ _) | (with_reducible refine below_drewN ?_ _) | (with_reducible refine Below.alloc ?_ ?_ _) | (with_reducible refine Below.drew ?_) | (with_reducible refine Below.setCell ?_ ?_ _) | (simp only [World.size_alloc, World.size_setCell, World.size_drew, more_size, World.heap_drewN]; omega) | go_size))⟩
  · have ho : 0 ≤ o ∧ o ≤ 37 := by
      by_cases h : 0 ≤ o ∧ o ≤ 37
      · exact h
      · simp [oRight, oIs_no h] at hr
    obtain ⟨n, rfl⟩ := Int.eq_ofNat_of_zero_le ho.1
    have hn37 : n ≤ 37 := by omega
    have hn38 : (n : Int) < 38 := by omega
    have hR := @ref12_Right n a b
    have hS := @ref12_Shape n
    have zw := oW_size n
    rw [hr] at hR
    clear ho
    by_cases hx : oA n = 0
    · by_cases hy : oB n = 0
      · skip
        have HL := Lib.hid (oLine_00 hr hx hy)
        have hbx : (0 < oA n) = False := eq_false (by omega)
        have hby : (0 < oB n) = False := eq_false (by omega)
        clear hx hy
        generalize oA n = x at *
        generalize oB n = y at *
        go_enter Tryd.func20, Tryd.ntmps20
        go_wp2_with fail
        refine (hR _).mono ?_; rintro e w1 ⟨rfl, hb1⟩
        have c0 : w1.cell? ⟨w.heap.size, 0, none⟩ = some (.int .i64 n) := (hb1.cell (by simp)).trans (by rw [cell_at (by simp)]; rfl)
        have c1 : w1.cell? ⟨w.heap.size, 1, none⟩ = some (.int .i64 a) := (hb1.cell (by simp)).trans (by rw [cell_at (by simp)]; rfl)
        have c2 : w1.cell? ⟨w.heap.size, 2, none⟩ = some (.int .i64 b) := (hb1.cell (by simp)).trans (by rw [cell_at (by simp)]; rfl)
        have hzz : w.heap.size < w1.heap.size := by have := hb1.size; simp at this; omega
        have hB1 : Below w.heap.size w w1 := Below.trans (by (repeat' (first | (with_reducible exact Below.refl _ _) | (with_reducible assumption) | (with_reducible refine more_below ?_ ?_ _ _) | (with_reducible refine below_drewN ?_ _) | (with_reducible refine Below.alloc ?_ ?_ _) | (with_reducible refine Below.drew ?_) | (with_reducible refine Below.setCell ?_ ?_ _) | (simp only [World.size_alloc, World.size_setCell, World.size_drew, more_size, World.heap_drewN]; omega) | go_size))) (hb1.mono (by simp <;> omega))
        clear hb1
        go_wp2_with fail
        refine (hS _).mono ?_; rintro e W1 ⟨rfl, hb2⟩
        have c0 := (hb2.cell (p := ⟨w.heap.size, 0, none⟩) hzz).trans c0
        have c1 := (hb2.cell (p := ⟨w.heap.size, 1, none⟩) hzz).trans c1
        have c2 := (hb2.cell (p := ⟨w.heap.size, 2, none⟩) hzz).trans c2
        have hz1 : w.heap.size < W1.heap.size := Nat.lt_of_lt_of_le hzz hb2.size
        have hBW := hB1.trans (hb2.mono hB1.size)
        clear hb2 hB1 hzz
        go_wp2_with fail
        refine wp_region_held_drew (S := (fun w' => Below W1.heap.size W1 w')) (by kernel_rfl) ?_ (fun hHeld => ?_)
        · (try dsimp only); first | exact (Below.refl _ _).drew | exact hBz | (trace_state; fail)
        refine wpAnyH_take (i := 1) (oi := { dst := some 16, op := Op.fieldAddr 36 (Operand.tmp 1) 0, type := 0, pos := _, after := #[], guard := none }) (v := ?_) rfl (by kernel_rfl) (by kernel_rfl) (by kernel_rfl) (fun _ _ _ h => h) (Or.inl ⟨by rfl, ?_⟩) (by assumption) ?_
        rotate_left
        · intro w hSw; (try dsimp only at hSw); first | (go_simp; done) | (go_simp; with_reducible rfl)
        try simp only [Act.put, List.setIfInBounds_toArray, List.set_cons_zero, List.set_cons_succ]
        refine wpAnyH_take (i := 2) (oi := { dst := some 17, op := Op.load 3 (Operand.tmp 16), type := 3, pos := _, after := #[{ on := 1, ground := Ground.data }], guard := none }) (v := ?_) rfl (by kernel_rfl) (by kernel_rfl) (by kernel_rfl) (fun _ _ _ h => h) (Or.inl ⟨by rfl, ?_⟩) (by assumption) ?_
        rotate_left
        · intro wt hSw; (try dsimp only at hSw); have hcx := (hSw.cell (p := ⟨w.heap.size, 0, none⟩) hz1).trans c0; first | (go_simp; done) | (go_simp; with_reducible rfl) | (trace_state; fail)
        try simp only [Act.put, List.setIfInBounds_toArray, List.set_cons_zero, List.set_cons_succ]
        refine wpAnyH_ready (rs := [0]) (by kernel_rfl) (by simp) ?_
        refine AllReadyH.cons (o := { dst := some 15, op := Op.call { callee := Callee.value (Operand.func 32), args := #[], argTypes := #[] }, type := 51, pos := _, after := #[], guard := none }) rfl (fun K hK => ?_) AllReadyH.nil
        go_simp
        refine (ref12_Words _).mono ?_; rintro e wz ⟨rfl, hwz⟩; have hcz : wz.cell? ⟨W1.heap.size, n, none⟩ = some (.string (oW n)) := words_cell hwz n hn37; have hBz : Below W1.heap.size W1 wz := (by rw [hwz]; exact ((Below.refl _ _).drew).alloc (Nat.le_refl _) _); clear hwz
        go_wp2_with fail
        refine hK.out _ _ ?_ (fun hHeld => ?_)
        · (try dsimp only); first | exact (Below.refl _ _).drew | exact hBz | (trace_state; fail)
        clear hK K
        refine wpAnyH_switch (S' := fun w' => Below W1.heap.size W1 w' ∧ w'.cell? ⟨W1.heap.size, n, none⟩ = some (.string (oW n))) (fun _ h => h.1) _ _ _ _ ?_
        have hHeld := And.intro hBz hcz
        try simp only [Act.put, List.setIfInBounds_toArray, List.set_cons_zero, List.set_cons_succ]
        refine wpAnyH_take (i := 3) (oi := { dst := some 18, op := Op.indexAddr 51 (Operand.tmp 15) (Operand.tmp 17), type := 0, pos := _, after := #[{ on := 0, ground := Ground.data }, { on := 2, ground := Ground.data }], guard := none }) (v := ?_) rfl (by kernel_rfl) (by kernel_rfl) (by kernel_rfl) (fun _ _ _ h => h) (Or.inl ⟨by rfl, ?_⟩) (by assumption) ?_
        rotate_left
        · intro w hSw; (try dsimp only at hSw); first | (go_simp; done) | (go_simp; with_reducible rfl)
        try simp only [Act.put, List.setIfInBounds_toArray, List.set_cons_zero, List.set_cons_succ]
        refine wpAnyH_take (i := 4) (oi := { dst := some 19, op := Op.load 9 (Operand.tmp 18), type := 9, pos := _, after := #[{ on := 3, ground := Ground.data }], guard := none }) (v := ?_) rfl (by kernel_rfl) (by kernel_rfl) (by kernel_rfl) (fun _ _ _ h => h) (Or.inl ⟨by rfl, ?_⟩) (by assumption) ?_
        rotate_left
        · intro wt hSw; (try dsimp only at hSw); have hcx := hSw.2; first | (go_simp; done) | (go_simp; with_reducible rfl) | (trace_state; fail)
        try simp only [Act.put, List.setIfInBounds_toArray, List.set_cons_zero, List.set_cons_succ]
        refine wpAnyH_take (i := 5) (oi := { dst := some 5, op := Op.assign (Operand.tmp 19), type := 9, pos := _, after := #[{ on := 4, ground := Ground.data }, { on := 0, ground := Ground.chain }, { on := 0, ground := Ground.phase }, { on := 1, ground := Ground.phase }, { on := 2, ground := Ground.phase }, { on := 3, ground := Ground.phase }, { on := 4, ground := Ground.phase }], guard := none }) (v := ?_) rfl (by kernel_rfl) (by kernel_rfl) (by kernel_rfl) (fun _ _ _ h => h) (Or.inl ⟨by rfl, ?_⟩) (by assumption) ?_
        rotate_left
        · intro w hSw; (try dsimp only at hSw); first | (go_simp; done) | (go_simp; with_reducible rfl)
        try simp only [Act.put, List.setIfInBounds_toArray, List.set_cons_zero, List.set_cons_succ]
        refine wpAnyH_done (by kernel_rfl) ?_ _
        have d1 := (hBz.cell (p := ⟨w.heap.size, 1, none⟩) hz1).trans c1
        have d2 := (hBz.cell (p := ⟨w.heap.size, 2, none⟩) hz1).trans c2
        have hBB := hBW.trans (hBz.mono hBW.size)
        clear hBz hcz c0 c1 c2 hBW
        go_wp2_with fail
        go_ret
        exact ⟨by rw [HL.out]; (try simp only [ba_assoc]); rfl, by (repeat' (first | (with_reducible exact Below.refl _ _) | (with_reducible assumption) | (with_reducible refine more_below ?_ ?_ _ _) | (with_reducible refine below_drewN ?_ _) | (with_reducible refine Below.alloc ?_ ?_ _) | (with_reducible refine Below.drew ?_) | (with_reducible refine Below.setCell ?_ ?_ _) | (simp only [World.size_alloc, World.size_setCell, World.size_drew, more_size, World.heap_drewN]; omega) | go_size))⟩
      · skip
        have HL := Lib.hid (oLine_01 hr hx hy)
        have hbx : (0 < oA n) = False := eq_false (by omega)
        have hby : (0 < oB n) = True := eq_true (by have := oAB_ge n; omega)
        clear hx hy
        generalize oA n = x at *
        generalize oB n = y at *
        go_enter Tryd.func20, Tryd.ntmps20
        go_wp2_with fail
        refine (hR _).mono ?_; rintro e w1 ⟨rfl, hb1⟩
        have c0 : w1.cell? ⟨w.heap.size, 0, none⟩ = some (.int .i64 n) := (hb1.cell (by simp)).trans (by rw [cell_at (by simp)]; rfl)
        have c1 : w1.cell? ⟨w.heap.size, 1, none⟩ = some (.int .i64 a) := (hb1.cell (by simp)).trans (by rw [cell_at (by simp)]; rfl)
        have c2 : w1.cell? ⟨w.heap.size, 2, none⟩ = some (.int .i64 b) := (hb1.cell (by simp)).trans (by rw [cell_at (by simp)]; rfl)
        have hzz : w.heap.size < w1.heap.size := by have := hb1.size; simp at this; omega
        have hB1 : Below w.heap.size w w1 := Below.trans (by (repeat' (first | (with_reducible exact Below.refl _ _) | (with_reducible assumption) | (with_reducible refine more_below ?_ ?_ _ _) | (with_reducible refine below_drewN ?_ _) | (with_reducible refine Below.alloc ?_ ?_ _) | (with_reducible refine Below.drew ?_) | (with_reducible refine Below.setCell ?_ ?_ _) | (simp only [World.size_alloc, World.size_setCell, World.size_drew, more_size, World.heap_drewN]; omega) | go_size))) (hb1.mono (by simp <;> omega))
        clear hb1
        go_wp2_with fail
        refine (hS _).mono ?_; rintro e W1 ⟨rfl, hb2⟩
        have c0 := (hb2.cell (p := ⟨w.heap.size, 0, none⟩) hzz).trans c0
        have c1 := (hb2.cell (p := ⟨w.heap.size, 1, none⟩) hzz).trans c1
        have c2 := (hb2.cell (p := ⟨w.heap.size, 2, none⟩) hzz).trans c2
        have hz1 : w.heap.size < W1.heap.size := Nat.lt_of_lt_of_le hzz hb2.size
        have hBW := hB1.trans (hb2.mono hB1.size)
        clear hb2 hB1 hzz
        go_wp2_with fail
        refine wp_region_held_drew (S := (fun w' => Below W1.heap.size W1 w')) (by kernel_rfl) ?_ (fun hHeld => ?_)
        · (try dsimp only); first | exact (Below.refl _ _).drew | exact hBz | (trace_state; fail)
        refine wpAnyH_take (i := 1) (oi := { dst := some 16, op := Op.fieldAddr 36 (Operand.tmp 1) 0, type := 0, pos := _, after := #[], guard := none }) (v := ?_) rfl (by kernel_rfl) (by kernel_rfl) (by kernel_rfl) (fun _ _ _ h => h) (Or.inl ⟨by rfl, ?_⟩) (by assumption) ?_
        rotate_left
        · intro w hSw; (try dsimp only at hSw); first | (go_simp; done) | (go_simp; with_reducible rfl)
        try simp only [Act.put, List.setIfInBounds_toArray, List.set_cons_zero, List.set_cons_succ]
        refine wpAnyH_take (i := 2) (oi := { dst := some 17, op := Op.load 3 (Operand.tmp 16), type := 3, pos := _, after := #[{ on := 1, ground := Ground.data }], guard := none }) (v := ?_) rfl (by kernel_rfl) (by kernel_rfl) (by kernel_rfl) (fun _ _ _ h => h) (Or.inl ⟨by rfl, ?_⟩) (by assumption) ?_
        rotate_left
        · intro wt hSw; (try dsimp only at hSw); have hcx := (hSw.cell (p := ⟨w.heap.size, 0, none⟩) hz1).trans c0; first | (go_simp; done) | (go_simp; with_reducible rfl) | (trace_state; fail)
        try simp only [Act.put, List.setIfInBounds_toArray, List.set_cons_zero, List.set_cons_succ]
        refine wpAnyH_ready (rs := [0]) (by kernel_rfl) (by simp) ?_
        refine AllReadyH.cons (o := { dst := some 15, op := Op.call { callee := Callee.value (Operand.func 32), args := #[], argTypes := #[] }, type := 51, pos := _, after := #[], guard := none }) rfl (fun K hK => ?_) AllReadyH.nil
        go_simp
        refine (ref12_Words _).mono ?_; rintro e wz ⟨rfl, hwz⟩; have hcz : wz.cell? ⟨W1.heap.size, n, none⟩ = some (.string (oW n)) := words_cell hwz n hn37; have hBz : Below W1.heap.size W1 wz := (by rw [hwz]; exact ((Below.refl _ _).drew).alloc (Nat.le_refl _) _); clear hwz
        go_wp2_with fail
        refine hK.out _ _ ?_ (fun hHeld => ?_)
        · (try dsimp only); first | exact (Below.refl _ _).drew | exact hBz | (trace_state; fail)
        clear hK K
        refine wpAnyH_switch (S' := fun w' => Below W1.heap.size W1 w' ∧ w'.cell? ⟨W1.heap.size, n, none⟩ = some (.string (oW n))) (fun _ h => h.1) _ _ _ _ ?_
        have hHeld := And.intro hBz hcz
        try simp only [Act.put, List.setIfInBounds_toArray, List.set_cons_zero, List.set_cons_succ]
        refine wpAnyH_take (i := 3) (oi := { dst := some 18, op := Op.indexAddr 51 (Operand.tmp 15) (Operand.tmp 17), type := 0, pos := _, after := #[{ on := 0, ground := Ground.data }, { on := 2, ground := Ground.data }], guard := none }) (v := ?_) rfl (by kernel_rfl) (by kernel_rfl) (by kernel_rfl) (fun _ _ _ h => h) (Or.inl ⟨by rfl, ?_⟩) (by assumption) ?_
        rotate_left
        · intro w hSw; (try dsimp only at hSw); first | (go_simp; done) | (go_simp; with_reducible rfl)
        try simp only [Act.put, List.setIfInBounds_toArray, List.set_cons_zero, List.set_cons_succ]
        refine wpAnyH_take (i := 4) (oi := { dst := some 19, op := Op.load 9 (Operand.tmp 18), type := 9, pos := _, after := #[{ on := 3, ground := Ground.data }], guard := none }) (v := ?_) rfl (by kernel_rfl) (by kernel_rfl) (by kernel_rfl) (fun _ _ _ h => h) (Or.inl ⟨by rfl, ?_⟩) (by assumption) ?_
        rotate_left
        · intro wt hSw; (try dsimp only at hSw); have hcx := hSw.2; first | (go_simp; done) | (go_simp; with_reducible rfl) | (trace_state; fail)
        try simp only [Act.put, List.setIfInBounds_toArray, List.set_cons_zero, List.set_cons_succ]
        refine wpAnyH_take (i := 5) (oi := { dst := some 5, op := Op.assign (Operand.tmp 19), type := 9, pos := _, after := #[{ on := 4, ground := Ground.data }, { on := 0, ground := Ground.chain }, { on := 0, ground := Ground.phase }, { on := 1, ground := Ground.phase }, { on := 2, ground := Ground.phase }, { on := 3, ground := Ground.phase }, { on := 4, ground := Ground.phase }], guard := none }) (v := ?_) rfl (by kernel_rfl) (by kernel_rfl) (by kernel_rfl) (fun _ _ _ h => h) (Or.inl ⟨by rfl, ?_⟩) (by assumption) ?_
        rotate_left
        · intro w hSw; (try dsimp only at hSw); first | (go_simp; done) | (go_simp; with_reducible rfl)
        try simp only [Act.put, List.setIfInBounds_toArray, List.set_cons_zero, List.set_cons_succ]
        refine wpAnyH_done (by kernel_rfl) ?_ _
        have d1 := (hBz.cell (p := ⟨w.heap.size, 1, none⟩) hz1).trans c1
        have d2 := (hBz.cell (p := ⟨w.heap.size, 2, none⟩) hz1).trans c2
        have hBB := hBW.trans (hBz.mono hBW.size)
        clear hBz hcz c0 c1 c2 hBW
        go_wp2_with fail
        refine (ref04_Print b HB.out _).mono ?_; rintro e w3 ⟨rfl, rfl⟩
        go_wp2_with fail
        go_ret
        exact ⟨by rw [HL.out]; (try simp only [ba_assoc]); rfl, by (repeat' (first | (with_reducible exact Below.refl _ _) | (with_reducible assumption) | (with_reducible refine more_below ?_ ?_ _ _) | (with_reducible refine below_drewN ?_ _) | (with_reducible refine Below.alloc ?_ ?_ _) | (with_reducible refine Below.drew ?_) | (with_reducible refine Below.setCell ?_ ?_ _) | (simp only [World.size_alloc, World.size_setCell, World.size_drew, more_size, World.heap_drewN]; omega) | go_size))⟩
    · by_cases hy : oB n = 0
      · skip
        have HL := Lib.hid (oLine_10 hr hx hy)
        have hbx : (0 < oA n) = True := eq_true (by have := oAB_ge n; omega)
        have hby : (0 < oB n) = False := eq_false (by omega)
        clear hx hy
        generalize oA n = x at *
        generalize oB n = y at *
        go_enter Tryd.func20, Tryd.ntmps20
        go_wp2_with fail
        refine (hR _).mono ?_; rintro e w1 ⟨rfl, hb1⟩
        have c0 : w1.cell? ⟨w.heap.size, 0, none⟩ = some (.int .i64 n) := (hb1.cell (by simp)).trans (by rw [cell_at (by simp)]; rfl)
        have c1 : w1.cell? ⟨w.heap.size, 1, none⟩ = some (.int .i64 a) := (hb1.cell (by simp)).trans (by rw [cell_at (by simp)]; rfl)
        have c2 : w1.cell? ⟨w.heap.size, 2, none⟩ = some (.int .i64 b) := (hb1.cell (by simp)).trans (by rw [cell_at (by simp)]; rfl)
        have hzz : w.heap.size < w1.heap.size := by have := hb1.size; simp at this; omega
        have hB1 : Below w.heap.size w w1 := Below.trans (by (repeat' (first | (with_reducible exact Below.refl _ _) | (with_reducible assumption) | (with_reducible refine more_below ?_ ?_ _ _) | (with_reducible refine below_drewN ?_ _) | (with_reducible refine Below.alloc ?_ ?_ _) | (with_reducible refine Below.drew ?_) | (with_reducible refine Below.setCell ?_ ?_ _) | (simp only [World.size_alloc, World.size_setCell, World.size_drew, more_size, World.heap_drewN]; omega) | go_size))) (hb1.mono (by simp <;> omega))
        clear hb1
        go_wp2_with fail
        refine (hS _).mono ?_; rintro e W1 ⟨rfl, hb2⟩
        have c0 := (hb2.cell (p := ⟨w.heap.size, 0, none⟩) hzz).trans c0
        have c1 := (hb2.cell (p := ⟨w.heap.size, 1, none⟩) hzz).trans c1
        have c2 := (hb2.cell (p := ⟨w.heap.size, 2, none⟩) hzz).trans c2
        have hz1 : w.heap.size < W1.heap.size := Nat.lt_of_lt_of_le hzz hb2.size
        have hBW := hB1.trans (hb2.mono hB1.size)
        clear hb2 hB1 hzz
        go_wp2_with fail
        refine wp_region_held_drew (S := (fun w' => Below W1.heap.size W1 w')) (by kernel_rfl) ?_ (fun hHeld => ?_)
        · (try dsimp only); first | exact (Below.refl _ _).drew | exact hBz | (trace_state; fail)
        refine wpAnyH_take (i := 1) (oi := { dst := some 16, op := Op.fieldAddr 36 (Operand.tmp 1) 0, type := 0, pos := _, after := #[], guard := none }) (v := ?_) rfl (by kernel_rfl) (by kernel_rfl) (by kernel_rfl) (fun _ _ _ h => h) (Or.inl ⟨by rfl, ?_⟩) (by assumption) ?_
        rotate_left
        · intro w hSw; (try dsimp only at hSw); first | (go_simp; done) | (go_simp; with_reducible rfl)
        try simp only [Act.put, List.setIfInBounds_toArray, List.set_cons_zero, List.set_cons_succ]
        refine wpAnyH_take (i := 2) (oi := { dst := some 17, op := Op.load 3 (Operand.tmp 16), type := 3, pos := _, after := #[{ on := 1, ground := Ground.data }], guard := none }) (v := ?_) rfl (by kernel_rfl) (by kernel_rfl) (by kernel_rfl) (fun _ _ _ h => h) (Or.inl ⟨by rfl, ?_⟩) (by assumption) ?_
        rotate_left
        · intro wt hSw; (try dsimp only at hSw); have hcx := (hSw.cell (p := ⟨w.heap.size, 0, none⟩) hz1).trans c0; first | (go_simp; done) | (go_simp; with_reducible rfl) | (trace_state; fail)
        try simp only [Act.put, List.setIfInBounds_toArray, List.set_cons_zero, List.set_cons_succ]
        refine wpAnyH_ready (rs := [0]) (by kernel_rfl) (by simp) ?_
        refine AllReadyH.cons (o := { dst := some 15, op := Op.call { callee := Callee.value (Operand.func 32), args := #[], argTypes := #[] }, type := 51, pos := _, after := #[], guard := none }) rfl (fun K hK => ?_) AllReadyH.nil
        go_simp
        refine (ref12_Words _).mono ?_; rintro e wz ⟨rfl, hwz⟩; have hcz : wz.cell? ⟨W1.heap.size, n, none⟩ = some (.string (oW n)) := words_cell hwz n hn37; have hBz : Below W1.heap.size W1 wz := (by rw [hwz]; exact ((Below.refl _ _).drew).alloc (Nat.le_refl _) _); clear hwz
        go_wp2_with fail
        refine hK.out _ _ ?_ (fun hHeld => ?_)
        · (try dsimp only); first | exact (Below.refl _ _).drew | exact hBz | (trace_state; fail)
        clear hK K
        refine wpAnyH_switch (S' := fun w' => Below W1.heap.size W1 w' ∧ w'.cell? ⟨W1.heap.size, n, none⟩ = some (.string (oW n))) (fun _ h => h.1) _ _ _ _ ?_
        have hHeld := And.intro hBz hcz
        try simp only [Act.put, List.setIfInBounds_toArray, List.set_cons_zero, List.set_cons_succ]
        refine wpAnyH_take (i := 3) (oi := { dst := some 18, op := Op.indexAddr 51 (Operand.tmp 15) (Operand.tmp 17), type := 0, pos := _, after := #[{ on := 0, ground := Ground.data }, { on := 2, ground := Ground.data }], guard := none }) (v := ?_) rfl (by kernel_rfl) (by kernel_rfl) (by kernel_rfl) (fun _ _ _ h => h) (Or.inl ⟨by rfl, ?_⟩) (by assumption) ?_
        rotate_left
        · intro w hSw; (try dsimp only at hSw); first | (go_simp; done) | (go_simp; with_reducible rfl)
        try simp only [Act.put, List.setIfInBounds_toArray, List.set_cons_zero, List.set_cons_succ]
        refine wpAnyH_take (i := 4) (oi := { dst := some 19, op := Op.load 9 (Operand.tmp 18), type := 9, pos := _, after := #[{ on := 3, ground := Ground.data }], guard := none }) (v := ?_) rfl (by kernel_rfl) (by kernel_rfl) (by kernel_rfl) (fun _ _ _ h => h) (Or.inl ⟨by rfl, ?_⟩) (by assumption) ?_
        rotate_left
        · intro wt hSw; (try dsimp only at hSw); have hcx := hSw.2; first | (go_simp; done) | (go_simp; with_reducible rfl) | (trace_state; fail)
        try simp only [Act.put, List.setIfInBounds_toArray, List.set_cons_zero, List.set_cons_succ]
        refine wpAnyH_take (i := 5) (oi := { dst := some 5, op := Op.assign (Operand.tmp 19), type := 9, pos := _, after := #[{ on := 4, ground := Ground.data }, { on := 0, ground := Ground.chain }, { on := 0, ground := Ground.phase }, { on := 1, ground := Ground.phase }, { on := 2, ground := Ground.phase }, { on := 3, ground := Ground.phase }, { on := 4, ground := Ground.phase }], guard := none }) (v := ?_) rfl (by kernel_rfl) (by kernel_rfl) (by kernel_rfl) (fun _ _ _ h => h) (Or.inl ⟨by rfl, ?_⟩) (by assumption) ?_
        rotate_left
        · intro w hSw; (try dsimp only at hSw); first | (go_simp; done) | (go_simp; with_reducible rfl)
        try simp only [Act.put, List.setIfInBounds_toArray, List.set_cons_zero, List.set_cons_succ]
        refine wpAnyH_done (by kernel_rfl) ?_ _
        have d1 := (hBz.cell (p := ⟨w.heap.size, 1, none⟩) hz1).trans c1
        have d2 := (hBz.cell (p := ⟨w.heap.size, 2, none⟩) hz1).trans c2
        have hBB := hBW.trans (hBz.mono hBW.size)
        clear hBz hcz c0 c1 c2 hBW
        go_wp2_with fail
        refine (ref04_Print a HA.out _).mono ?_; rintro e w2 ⟨rfl, rfl⟩
        go_wp2_with fail
        go_ret
        exact ⟨by rw [HL.out]; (try simp only [ba_assoc]); rfl, by (repeat' (first | (with_reducible exact Below.refl _ _) | (with_reducible assumption) | (with_reducible refine more_below ?_ ?_ _ _) | (with_reducible refine below_drewN ?_ _) | (with_reducible refine Below.alloc ?_ ?_ _) | (with_reducible refine Below.drew ?_) | (with_reducible refine Below.setCell ?_ ?_ _) | (simp only [World.size_alloc, World.size_setCell, World.size_drew, more_size, World.heap_drewN]; omega) | go_size))⟩
      · skip
        have HL := Lib.hid (oLine_11 hr hx hy)
        have hbx : (0 < oA n) = True := eq_true (by have := oAB_ge n; omega)
        have hby : (0 < oB n) = True := eq_true (by have := oAB_ge n; omega)
        clear hx hy
        generalize oA n = x at *
        generalize oB n = y at *
        go_enter Tryd.func20, Tryd.ntmps20
        go_wp2_with fail
        refine (hR _).mono ?_; rintro e w1 ⟨rfl, hb1⟩
        have c0 : w1.cell? ⟨w.heap.size, 0, none⟩ = some (.int .i64 n) := (hb1.cell (by simp)).trans (by rw [cell_at (by simp)]; rfl)
        have c1 : w1.cell? ⟨w.heap.size, 1, none⟩ = some (.int .i64 a) := (hb1.cell (by simp)).trans (by rw [cell_at (by simp)]; rfl)
        have c2 : w1.cell? ⟨w.heap.size, 2, none⟩ = some (.int .i64 b) := (hb1.cell (by simp)).trans (by rw [cell_at (by simp)]; rfl)
        have hzz : w.heap.size < w1.heap.size := by have := hb1.size; simp at this; omega
        have hB1 : Below w.heap.size w w1 := Below.trans (by (repeat' (first | (with_reducible exact Below.refl _ _) | (with_reducible assumption) | (with_reducible refine more_below ?_ ?_ _ _) | (with_reducible refine below_drewN ?_ _) | (with_reducible refine Below.alloc ?_ ?_ _) | (with_reducible refine Below.drew ?_) | (with_reducible refine Below.setCell ?_ ?_ _) | (simp only [World.size_alloc, World.size_setCell, World.size_drew, more_size, World.heap_drewN]; omega) | go_size))) (hb1.mono (by simp <;> omega))
        clear hb1
        go_wp2_with fail
        refine (hS _).mono ?_; rintro e W1 ⟨rfl, hb2⟩
        have c0 := (hb2.cell (p := ⟨w.heap.size, 0, none⟩) hzz).trans c0
        have c1 := (hb2.cell (p := ⟨w.heap.size, 1, none⟩) hzz).trans c1
        have c2 := (hb2.cell (p := ⟨w.heap.size, 2, none⟩) hzz).trans c2
        have hz1 : w.heap.size < W1.heap.size := Nat.lt_of_lt_of_le hzz hb2.size
        have hBW := hB1.trans (hb2.mono hB1.size)
        clear hb2 hB1 hzz
        go_wp2_with fail
        refine wp_region_held_drew (S := (fun w' => Below W1.heap.size W1 w')) (by kernel_rfl) ?_ (fun hHeld => ?_)
        · (try dsimp only); first | exact (Below.refl _ _).drew | exact hBz | (trace_state; fail)
        refine wpAnyH_take (i := 1) (oi := { dst := some 16, op := Op.fieldAddr 36 (Operand.tmp 1) 0, type := 0, pos := _, after := #[], guard := none }) (v := ?_) rfl (by kernel_rfl) (by kernel_rfl) (by kernel_rfl) (fun _ _ _ h => h) (Or.inl ⟨by rfl, ?_⟩) (by assumption) ?_
        rotate_left
        · intro w hSw; (try dsimp only at hSw); first | (go_simp; done) | (go_simp; with_reducible rfl)
        try simp only [Act.put, List.setIfInBounds_toArray, List.set_cons_zero, List.set_cons_succ]
        refine wpAnyH_take (i := 2) (oi := { dst := some 17, op := Op.load 3 (Operand.tmp 16), type := 3, pos := _, after := #[{ on := 1, ground := Ground.data }], guard := none }) (v := ?_) rfl (by kernel_rfl) (by kernel_rfl) (by kernel_rfl) (fun _ _ _ h => h) (Or.inl ⟨by rfl, ?_⟩) (by assumption) ?_
        rotate_left
        · intro wt hSw; (try dsimp only at hSw); have hcx := (hSw.cell (p := ⟨w.heap.size, 0, none⟩) hz1).trans c0; first | (go_simp; done) | (go_simp; with_reducible rfl) | (trace_state; fail)
        try simp only [Act.put, List.setIfInBounds_toArray, List.set_cons_zero, List.set_cons_succ]
        refine wpAnyH_ready (rs := [0]) (by kernel_rfl) (by simp) ?_
        refine AllReadyH.cons (o := { dst := some 15, op := Op.call { callee := Callee.value (Operand.func 32), args := #[], argTypes := #[] }, type := 51, pos := _, after := #[], guard := none }) rfl (fun K hK => ?_) AllReadyH.nil
        go_simp
        refine (ref12_Words _).mono ?_; rintro e wz ⟨rfl, hwz⟩; have hcz : wz.cell? ⟨W1.heap.size, n, none⟩ = some (.string (oW n)) := words_cell hwz n hn37; have hBz : Below W1.heap.size W1 wz := (by rw [hwz]; exact ((Below.refl _ _).drew).alloc (Nat.le_refl _) _); clear hwz
        go_wp2_with fail
        refine hK.out _ _ ?_ (fun hHeld => ?_)
        · (try dsimp only); first | exact (Below.refl _ _).drew | exact hBz | (trace_state; fail)
        clear hK K
        refine wpAnyH_switch (S' := fun w' => Below W1.heap.size W1 w' ∧ w'.cell? ⟨W1.heap.size, n, none⟩ = some (.string (oW n))) (fun _ h => h.1) _ _ _ _ ?_
        have hHeld := And.intro hBz hcz
        try simp only [Act.put, List.setIfInBounds_toArray, List.set_cons_zero, List.set_cons_succ]
        refine wpAnyH_take (i := 3) (oi := { dst := some 18, op := Op.indexAddr 51 (Operand.tmp 15) (Operand.tmp 17), type := 0, pos := _, after := #[{ on := 0, ground := Ground.data }, { on := 2, ground := Ground.data }], guard := none }) (v := ?_) rfl (by kernel_rfl) (by kernel_rfl) (by kernel_rfl) (fun _ _ _ h => h) (Or.inl ⟨by rfl, ?_⟩) (by assumption) ?_
        rotate_left
        · intro w hSw; (try dsimp only at hSw); first | (go_simp; done) | (go_simp; with_reducible rfl)
        try simp only [Act.put, List.setIfInBounds_toArray, List.set_cons_zero, List.set_cons_succ]
        refine wpAnyH_take (i := 4) (oi := { dst := some 19, op := Op.load 9 (Operand.tmp 18), type := 9, pos := _, after := #[{ on := 3, ground := Ground.data }], guard := none }) (v := ?_) rfl (by kernel_rfl) (by kernel_rfl) (by kernel_rfl) (fun _ _ _ h => h) (Or.inl ⟨by rfl, ?_⟩) (by assumption) ?_
        rotate_left
        · intro wt hSw; (try dsimp only at hSw); have hcx := hSw.2; first | (go_simp; done) | (go_simp; with_reducible rfl) | (trace_state; fail)
        try simp only [Act.put, List.setIfInBounds_toArray, List.set_cons_zero, List.set_cons_succ]
        refine wpAnyH_take (i := 5) (oi := { dst := some 5, op := Op.assign (Operand.tmp 19), type := 9, pos := _, after := #[{ on := 4, ground := Ground.data }, { on := 0, ground := Ground.chain }, { on := 0, ground := Ground.phase }, { on := 1, ground := Ground.phase }, { on := 2, ground := Ground.phase }, { on := 3, ground := Ground.phase }, { on := 4, ground := Ground.phase }], guard := none }) (v := ?_) rfl (by kernel_rfl) (by kernel_rfl) (by kernel_rfl) (fun _ _ _ h => h) (Or.inl ⟨by rfl, ?_⟩) (by assumption) ?_
        rotate_left
        · intro w hSw; (try dsimp only at hSw); first | (go_simp; done) | (go_simp; with_reducible rfl)
        try simp only [Act.put, List.setIfInBounds_toArray, List.set_cons_zero, List.set_cons_succ]
        refine wpAnyH_done (by kernel_rfl) ?_ _
        have d1 := (hBz.cell (p := ⟨w.heap.size, 1, none⟩) hz1).trans c1
        have d2 := (hBz.cell (p := ⟨w.heap.size, 2, none⟩) hz1).trans c2
        have hBB := hBW.trans (hBz.mono hBW.size)
        clear hBz hcz c0 c1 c2 hBW
        go_wp2_with fail
        refine (ref04_Print a HA.out _).mono ?_; rintro e w2 ⟨rfl, rfl⟩
        go_wp2_with fail
        refine (ref04_Print b HB.out _).mono ?_; rintro e w3 ⟨rfl, rfl⟩
        go_wp2_with fail
        go_ret
        exact ⟨by rw [HL.out]; (try simp only [ba_assoc]); rfl, by (repeat' (first | (with_reducible exact Below.refl _ _) | (with_reducible assumption) | (with_reducible refine more_below ?_ ?_ _ _) | (with_reducible refine below_drewN ?_ _) | (with_reducible refine Below.alloc ?_ ?_ _) | (with_reducible refine Below.drew ?_) | (with_reducible refine Below.setCell ?_ ?_ _) | (simp only [World.size_alloc, World.size_setCell, World.size_drew, more_size, World.heap_drewN]; omega) | go_size))⟩
end Go.Proofs.YtaeaiaamhgcmbaaDoor
