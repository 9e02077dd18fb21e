/- Merged texts: BhSort, BhMay, BhBehind, BhProg, BhNew, RefsRef, RefsJump, RefsJumpR, RefsCheck, BhAwake. -/
import Derived.Test.YtnkmnmlhjanplaaDoorInts
import Derived.Test.YtnkmnmlhjanplaaDoorBoxed
import Derived.Test.YtnkmnmlhjanplaaDoorOwnLow
import Derived.Deep.RegionHeld3
import Derived.BigRegion
import Derived.Lib.SliceRun
import Derived.LoopTactic
import Derived.Test.YtnkmnmlhjanplaaDoorStackPutN
import Derived.Test.YtnkmnmlhjanplaaDoorRefsThere
import Derived.Test.YtnkmnmlhjanplaaDoorSlots
import Derived.Test.YtnkmnmlhjanplaaDoorRefsOne
/- Layer 20: two numbers are sorted, and taken together where they are the same: the library's walks. -/
namespace Go.Proofs.YtnkmnmlhjanplaaDoor
open Go.RowKit
set_option linter.unusedSimpArgs false
set_option linter.unusedVariables false
theorem bh_cell {w : World} {b : Nat} {C : Array Value} {t : TypeId} {fr : Nat × Nat} (h : w.heap[b]? = some (.cells C t fr)) (i : Nat) {v : Value} (hv : C[i]? = some v) : w.cell? ⟨b, i, none⟩ = some v := by
  unfold World.cell?
  rw [show (⟨b, i, none⟩ : Addr).block = b from rfl, h]
  simpa using hv
theorem bh_free {w : World} {b : Nat} {C : Array Value} {t : TypeId} (h : w.heap[b]? = some (.cells C t (0, 0))) (i : Nat) : w.frozen? ⟨b, i, none⟩ = false := by
  unfold World.frozen?
  rw [show (⟨b, i, none⟩ : Addr).block = b from rfl, h]
  simp
theorem bh_set {w : World} {g o : Nat} {C : Array Value} {t : TypeId} (h : w.heap[g]? = some (.cells C t)) (a : Value) : (w.setCell ⟨g, o, none⟩ a).heap[g]? = some (.cells (C.setIfInBounds o a) t) := by
  unfold World.setCell
  show (w.heap.modify g _)[g]? = _
  rw [Array.getElem?_modify, if_pos rfl, h]
  rfl
theorem bh_grown_set {w w1 : World} {g o : Nat} (h : w.grownBy w1 (some g)) (a : Value) : w.grownBy (w1.setCell ⟨g, o, none⟩ a) (some g) :=
  ⟨h.os, h.tape, h.output, by simpa [World.setCell] using h.size, fun k hk hne => (Below.heap_setCell _ _ _ _ (fun e => hne (by rw [show k = g from e]))).trans (h.block k hk hne)⟩
theorem bh_grown_below {w w1 w2 : World} {o : Option Nat} (h : w.grownBy w1 o) (hb : Below w1.heap.size w1 w2) : w.grownBy w2 o :=
  ⟨hb.os.trans h.os, hb.tape.trans h.tape, hb.output.trans h.output, Nat.le_trans h.size hb.size, fun k hk hne => (hb.block k (Nat.lt_of_lt_of_le hk h.size)).trans (h.block k hk hne)⟩
theorem cmp_Less (x y : Int) (w : World) : Calls Tryd.prog 69 #[.int .i64 x, .int .i64 y] w fun e w' => e = .returned (.bool (decide (x < y))) ∧ w = w' := by
  have q1 : (x != x) = false := by simp
  have q2 : (y != y) = false := by simp
  by_cases h : x < y
  · have q3 : (x < y) = True := eq_true h
    rw [decide_eq_true h]
    clear h
    go_enter Tryd.func69, Tryd.ntmps69
    go_wp2
    go_ret
    exact ⟨rfl, rfl⟩
  · have q3 : (x < y) = False := eq_false h
    rw [decide_eq_false h]
    clear h
    go_enter Tryd.func69, Tryd.ntmps69
    go_wp2
    go_ret
    exact ⟨rfl, rfl⟩
set_option maxRecDepth 100000 in
set_option maxHeartbeats 4000000 in
theorem ins2 (g : Nat) (a b : Int) (w : World) (hg : g < w.heap.size) (h : w.heap[g]? = some (.cells #[.int .i64 a, .int .i64 b] 3)) :
    Calls Tryd.prog 63 #[.slice (some ⟨g, 0, none⟩) 2 2, .int .i64 0, .int .i64 2] w fun e w' => (∃ u, e = .returned u) ∧ w.grownBy w' (some g) ∧ w'.heap[g]? = some (.cells #[.int .i64 (if b < a then b else a), .int .i64 (if b < a then a else b)] 3) := by
  by_cases hlt : b < a
  · rw [if_pos hlt, if_pos hlt]
    have hl : decide (b < a) = true := decide_eq_true hlt
    have hw0 : IntKind.i64.wrap 0 = 0 := by decide
    clear hlt
    have HH := Lib.hid h
    have c0 := bh_cell h 0 (v := .int .i64 a) rfl
    have c1 := bh_cell h 1 (v := .int .i64 b) rfl
    clear h
    go_enter Tryd.func63, Tryd.ntmps63
    go_wp2_with fail
    go_loopw [6] (fun i wr => (i = .int .i64 1 ∧ wr = w) ∨ (i = .int .i64 2 ∧ Hid (w.grownBy wr (some g) ∧ wr.heap[g]? = some (.cells #[.int .i64 b, .int .i64 a] 3)))) (fun i _ => 2 - (intOf i).toNat)
    case atStart => exact Or.inl ⟨rfl, rfl⟩
    case round =>
      rcases hrel with ⟨rfl, rfl⟩ | ⟨rfl, hP⟩
      · go_wp2_with fail
        go_loopw [7] (fun j wx => (j = .int .i64 1 ∧ wx = wr) ∨ (j = .int .i64 0 ∧ Hid (wr.grownBy wx (some g) ∧ wx.heap[g]? = some (.cells #[.int .i64 b, .int .i64 a] 3)))) (fun j _ => (intOf j).toNat)
        case atStart => exact Or.inl ⟨rfl, rfl⟩
        case round =>
          rcases hrel with ⟨rfl, rfl⟩ | ⟨rfl, hP⟩
          · go_wp2_with fail
            refine wp_region_held_drew (S := (fun w' => Below wr.heap.size wr w')) (by kernel_rfl) ?_ (fun hHeld => ?_)
            · (try dsimp only); first | assumption | exact Below.alloc hHeld hHeld.size _ | exact (Below.refl _ _).drew | exact Below.drew (Below.refl _ _) | exact Below_drewN _ _ _ | exact Below.refl _ _ | (trace_state; fail)
            refine wpAnyH_take (i := 0) (oi := { dst := some 16, op := Op.move (Operand.tmp 7), type := 3, pos := _, after := #[], guard := none }) (v := ?_) rfl (by kernel_rfl) (by kernel_rfl) (by kernel_rfl) (fun _ _ _ h => h) (Or.inl ⟨by rfl, ?_⟩) (by assumption) ?_
            rotate_left
            · intro wt hSw; (try dsimp only at hSw); have c0 := cellB hSw c0 hg; have c1 := cellB hSw c1 hg; first | (go_simp; done) | (go_simp; with_reducible rfl) | (trace_state; fail)
            try simp only [Act.put, List.setIfInBounds_toArray, List.set_cons_zero, List.set_cons_succ]
            refine wpAnyH_take (i := 1) (oi := { dst := some 17, op := Op.move (Operand.tmp 1), type := 3, pos := _, after := #[], guard := none }) (v := ?_) rfl (by kernel_rfl) (by kernel_rfl) (by kernel_rfl) (fun _ _ _ h => h) (Or.inl ⟨by rfl, ?_⟩) (by assumption) ?_
            rotate_left
            · intro wt hSw; (try dsimp only at hSw); have c0 := cellB hSw c0 hg; have c1 := cellB hSw c1 hg; first | (go_simp; done) | (go_simp; with_reducible rfl) | (trace_state; fail)
            try simp only [Act.put, List.setIfInBounds_toArray, List.set_cons_zero, List.set_cons_succ]
            refine wpAnyH_take (i := 2) (oi := { dst := some 18, op := Op.binOp BinOp.gtr 3 (Operand.tmp 16) (Operand.tmp 17) 3, type := 4, pos := _, after := #[{ on := 0, ground := Ground.data }, { on := 1, ground := Ground.data }], guard := none }) (v := ?_) rfl (by kernel_rfl) (by kernel_rfl) (by kernel_rfl) (fun _ _ _ h => h) (Or.inl ⟨by rfl, ?_⟩) (by assumption) ?_
            rotate_left
            · intro wt hSw; (try dsimp only at hSw); have c0 := cellB hSw c0 hg; have c1 := cellB hSw c1 hg; first | (go_simp; done) | (go_simp; with_reducible rfl) | (trace_state; fail)
            try simp only [Act.put, List.setIfInBounds_toArray, List.set_cons_zero, List.set_cons_succ]
            refine wpAnyH_take (i := 3) (oi := { dst := some 19, op := Op.move (Operand.tmp 18), type := 4, pos := _, after := #[{ on := 2, ground := Ground.data }], guard := none }) (v := ?_) rfl (by kernel_rfl) (by kernel_rfl) (by kernel_rfl) (fun _ _ _ h => h) (Or.inl ⟨by rfl, ?_⟩) (by assumption) ?_
            rotate_left
            · intro wt hSw; (try dsimp only at hSw); have c0 := cellB hSw c0 hg; have c1 := cellB hSw c1 hg; first | (go_simp; done) | (go_simp; with_reducible rfl) | (trace_state; fail)
            try simp only [Act.put, List.setIfInBounds_toArray, List.set_cons_zero, List.set_cons_succ]
            refine wpAnyH_take (i := 4) (oi := { dst := some 20, op := Op.move (Operand.tmp 0), type := 36, pos := _, after := #[{ on := 3, ground := Ground.guard }], guard := some (3, true) }) (v := ?_) rfl (by kernel_rfl) (by kernel_rfl) (by kernel_rfl) (fun _ _ _ h => h) (Or.inl ⟨by rfl, ?_⟩) (by assumption) ?_
            rotate_left
            · intro wt hSw; (try dsimp only at hSw); have c0 := cellB hSw c0 hg; have c1 := cellB hSw c1 hg; first | (go_simp; done) | (go_simp; with_reducible rfl) | (trace_state; fail)
            try simp only [Act.put, List.setIfInBounds_toArray, List.set_cons_zero, List.set_cons_succ]
            refine wpAnyH_take (i := 5) (oi := { dst := some 21, op := Op.move (Operand.tmp 7), type := 3, pos := _, after := #[{ on := 3, ground := Ground.guard }], guard := some (3, true) }) (v := ?_) rfl (by kernel_rfl) (by kernel_rfl) (by kernel_rfl) (fun _ _ _ h => h) (Or.inl ⟨by rfl, ?_⟩) (by assumption) ?_
            rotate_left
            · intro wt hSw; (try dsimp only at hSw); have c0 := cellB hSw c0 hg; have c1 := cellB hSw c1 hg; first | (go_simp; done) | (go_simp; with_reducible rfl) | (trace_state; fail)
            try simp only [Act.put, List.setIfInBounds_toArray, List.set_cons_zero, List.set_cons_succ]
            refine wpAnyH_take (i := 6) (oi := { dst := some 22, op := Op.indexAddr 36 (Operand.tmp 20) (Operand.tmp 21), type := 0, pos := _, after := #[{ on := 4, ground := Ground.data }, { on := 5, ground := Ground.data }, { on := 3, ground := Ground.guard }], guard := some (3, true) }) (v := ?_) rfl (by kernel_rfl) (by kernel_rfl) (by kernel_rfl) (fun _ _ _ h => h) (Or.inl ⟨by rfl, ?_⟩) (by assumption) ?_
            rotate_left
            · intro wt hSw; (try dsimp only at hSw); have c0 := cellB hSw c0 hg; have c1 := cellB hSw c1 hg; first | (go_simp; done) | (go_simp; with_reducible rfl) | (trace_state; fail)
            try simp only [Act.put, List.setIfInBounds_toArray, List.set_cons_zero, List.set_cons_succ]
            refine wpAnyH_take (i := 7) (oi := { dst := some 23, op := Op.load 3 (Operand.tmp 22), type := 3, pos := _, after := #[{ on := 6, ground := Ground.data }, { on := 3, ground := Ground.guard }], guard := some (3, true) }) (v := ?_) rfl (by kernel_rfl) (by kernel_rfl) (by kernel_rfl) (fun _ _ _ h => h) (Or.inl ⟨by rfl, ?_⟩) (by assumption) ?_
            rotate_left
            · intro wt hSw; (try dsimp only at hSw); have c0 := cellB hSw c0 hg; have c1 := cellB hSw c1 hg; first | (go_simp; done) | (go_simp; with_reducible rfl) | (trace_state; fail)
            try simp only [Act.put, List.setIfInBounds_toArray, List.set_cons_zero, List.set_cons_succ]
            refine wpAnyH_take (i := 8) (oi := { dst := some 24, op := Op.move (Operand.tmp 0), type := 36, pos := _, after := #[{ on := 3, ground := Ground.guard }], guard := some (3, true) }) (v := ?_) rfl (by kernel_rfl) (by kernel_rfl) (by kernel_rfl) (fun _ _ _ h => h) (Or.inl ⟨by rfl, ?_⟩) (by assumption) ?_
            rotate_left
            · intro wt hSw; (try dsimp only at hSw); have c0 := cellB hSw c0 hg; have c1 := cellB hSw c1 hg; first | (go_simp; done) | (go_simp; with_reducible rfl) | (trace_state; fail)
            try simp only [Act.put, List.setIfInBounds_toArray, List.set_cons_zero, List.set_cons_succ]
            refine wpAnyH_take (i := 9) (oi := { dst := some 25, op := Op.move (Operand.tmp 7), type := 3, pos := _, after := #[{ on := 3, ground := Ground.guard }], guard := some (3, true) }) (v := ?_) rfl (by kernel_rfl) (by kernel_rfl) (by kernel_rfl) (fun _ _ _ h => h) (Or.inl ⟨by rfl, ?_⟩) (by assumption) ?_
            rotate_left
            · intro wt hSw; (try dsimp only at hSw); have c0 := cellB hSw c0 hg; have c1 := cellB hSw c1 hg; first | (go_simp; done) | (go_simp; with_reducible rfl) | (trace_state; fail)
            try simp only [Act.put, List.setIfInBounds_toArray, List.set_cons_zero, List.set_cons_succ]
            refine wpAnyH_take (i := 10) (oi := { dst := some 26, op := Op.binOp BinOp.sub 3 (Operand.tmp 25) (Operand.const (Value.int IntKind.i64 1)) 3, type := 3, pos := _, after := #[{ on := 9, ground := Ground.data }, { on := 3, ground := Ground.guard }], guard := some (3, true) }) (v := ?_) rfl (by kernel_rfl) (by kernel_rfl) (by kernel_rfl) (fun _ _ _ h => h) (Or.inl ⟨by rfl, ?_⟩) (by assumption) ?_
            rotate_left
            · intro wt hSw; (try dsimp only at hSw); have c0 := cellB hSw c0 hg; have c1 := cellB hSw c1 hg; first | (go_simp; done) | (go_simp; with_reducible rfl) | (trace_state; fail)
            try simp only [Act.put, List.setIfInBounds_toArray, List.set_cons_zero, List.set_cons_succ]
            refine wpAnyH_take (i := 11) (oi := { dst := some 27, op := Op.indexAddr 36 (Operand.tmp 24) (Operand.tmp 26), type := 0, pos := _, after := #[{ on := 8, ground := Ground.data }, { on := 10, ground := Ground.data }, { on := 3, ground := Ground.guard }], guard := some (3, true) }) (v := ?_) rfl (by kernel_rfl) (by kernel_rfl) (by kernel_rfl) (fun _ _ _ h => h) (Or.inl ⟨by rfl, ?_⟩) (by assumption) ?_
            rotate_left
            · intro wt hSw; (try dsimp only at hSw); have c0 := cellB hSw c0 hg; have c1 := cellB hSw c1 hg; first | (go_simp; done) | (go_simp; with_reducible rfl) | (trace_state; fail)
            try simp only [Act.put, List.setIfInBounds_toArray, List.set_cons_zero, List.set_cons_succ]
            refine wpAnyH_take (i := 12) (oi := { dst := some 28, op := Op.load 3 (Operand.tmp 27), type := 3, pos := _, after := #[{ on := 11, ground := Ground.data }, { on := 3, ground := Ground.guard }], guard := some (3, true) }) (v := ?_) rfl (by kernel_rfl) (by kernel_rfl) (by kernel_rfl) (fun _ _ _ h => h) (Or.inl ⟨by rfl, ?_⟩) (by assumption) ?_
            rotate_left
            · intro wt hSw; (try dsimp only at hSw); have c0 := cellB hSw c0 hg; have c1 := cellB hSw c1 hg; first | (go_simp; done) | (go_simp; with_reducible rfl) | (trace_state; fail)
            try simp only [Act.put, List.setIfInBounds_toArray, List.set_cons_zero, List.set_cons_succ]
            refine wpAnyH_ready (rs := [13]) (by kernel_rfl) (by simp) ?_
            refine AllReadyH.cons (o := { dst := some 29, op := Op.call { callee := Callee.value (Operand.func 69), args := #[Operand.tmp 23, Operand.tmp 28], argTypes := #[3, 3] }, type := 4, pos := _, after := #[{ on := 7, ground := Ground.data }, { on := 12, ground := Ground.data }, { on := 3, ground := Ground.chain }, { on := 3, ground := Ground.guard }], guard := some (3, true) }) rfl (fun K hK => ?_) AllReadyH.nil
            go_simp
            refine (cmp_Less b a _).mono ?_; rintro e v1 ⟨rfl, rfl⟩
            go_wp2_with fail
            refine hK.out _ _ ?_ (fun hHeld => ?_)
            · (try dsimp only); first | assumption | exact Below.alloc hHeld hHeld.size _ | exact (Below.refl _ _).drew | exact Below.drew (Below.refl _ _) | exact Below_drewN _ _ _ | exact Below.refl _ _ | (trace_state; fail)
            clear hK K
            try simp only [Act.put, List.setIfInBounds_toArray, List.set_cons_zero, List.set_cons_succ]
            refine wpAnyH_take (i := 14) (oi := { dst := some 30, op := Op.pick (Operand.tmp 19) (Operand.tmp 29) (Operand.const (Value.bool false)), type := 4, pos := _, after := #[{ on := 3, ground := Ground.data }, { on := 13, ground := Ground.data }], guard := none }) (v := ?_) rfl (by kernel_rfl) (by kernel_rfl) (by kernel_rfl) (fun _ _ _ h => h) (Or.inl ⟨by rfl, ?_⟩) (by assumption) ?_
            rotate_left
            · intro wt hSw; (try dsimp only at hSw); have c0 := cellB hSw c0 hg; have c1 := cellB hSw c1 hg; first | (go_simp; done) | (go_simp; with_reducible rfl) | (trace_state; fail)
            try simp only [Act.put, List.setIfInBounds_toArray, List.set_cons_zero, List.set_cons_succ]
            refine wpAnyH_done (by kernel_rfl) ?_ _
            have f0 := bh_free HH.out 0
            have f1 := bh_free HH.out 1
            have HS := Lib.hid (bh_set (bh_set HH.out (o := 1) (.int .i64 a)) (o := 0) (.int .i64 b))
            have HGS := Lib.hid (bh_grown_set (o := 0) (bh_grown_set (o := 1) (World.grownBy.refl wr (some g)) (.int .i64 a)) (.int .i64 b))
            clear hHeld
            go_wp2_with fail
            go_region
            go_wp2_with fail
            go_roundw
            case rel => exact Or.inr ⟨rfl, Lib.hid ⟨⟨HGS.out.os, HGS.out.tape, HGS.out.output, HGS.out.size, HGS.out.block⟩, HS.out⟩⟩
            case measure => simp [intOf]
          · have hg' : g < wr.heap.size := Nat.lt_of_lt_of_le hg hP.out.1.size
            go_wp2_with fail
            refine wp_region_held_drew (S := (fun w' => Below wr.heap.size wr w')) (by kernel_rfl) ?_ (fun hHeld => ?_)
            · (try dsimp only); first | assumption | exact Below.alloc hHeld hHeld.size _ | exact (Below.refl _ _).drew | exact Below.drew (Below.refl _ _) | exact Below_drewN _ _ _ | exact Below.refl _ _ | (trace_state; fail)
            refine wpAnyH_take (i := 0) (oi := { dst := some 16, op := Op.move (Operand.tmp 7), type := 3, pos := _, after := #[], guard := none }) (v := ?_) rfl (by kernel_rfl) (by kernel_rfl) (by kernel_rfl) (fun _ _ _ h => h) (Or.inl ⟨by rfl, ?_⟩) (by assumption) ?_
            rotate_left
            · intro wt hSw; (try dsimp only at hSw); first | (go_simp; done) | (go_simp; with_reducible rfl) | (trace_state; fail)
            try simp only [Act.put, List.setIfInBounds_toArray, List.set_cons_zero, List.set_cons_succ]
            refine wpAnyH_take (i := 1) (oi := { dst := some 17, op := Op.move (Operand.tmp 1), type := 3, pos := _, after := #[], guard := none }) (v := ?_) rfl (by kernel_rfl) (by kernel_rfl) (by kernel_rfl) (fun _ _ _ h => h) (Or.inl ⟨by rfl, ?_⟩) (by assumption) ?_
            rotate_left
            · intro wt hSw; (try dsimp only at hSw); first | (go_simp; done) | (go_simp; with_reducible rfl) | (trace_state; fail)
            try simp only [Act.put, List.setIfInBounds_toArray, List.set_cons_zero, List.set_cons_succ]
            refine wpAnyH_take (i := 2) (oi := { dst := some 18, op := Op.binOp BinOp.gtr 3 (Operand.tmp 16) (Operand.tmp 17) 3, type := 4, pos := _, after := #[{ on := 0, ground := Ground.data }, { on := 1, ground := Ground.data }], guard := none }) (v := ?_) rfl (by kernel_rfl) (by kernel_rfl) (by kernel_rfl) (fun _ _ _ h => h) (Or.inl ⟨by rfl, ?_⟩) (by assumption) ?_
            rotate_left
            · intro wt hSw; (try dsimp only at hSw); first | (go_simp; done) | (go_simp; with_reducible rfl) | (trace_state; fail)
            try simp only [Act.put, List.setIfInBounds_toArray, List.set_cons_zero, List.set_cons_succ]
            refine wpAnyH_take (i := 3) (oi := { dst := some 19, op := Op.move (Operand.tmp 18), type := 4, pos := _, after := #[{ on := 2, ground := Ground.data }], guard := none }) (v := ?_) rfl (by kernel_rfl) (by kernel_rfl) (by kernel_rfl) (fun _ _ _ h => h) (Or.inl ⟨by rfl, ?_⟩) (by assumption) ?_
            rotate_left
            · intro wt hSw; (try dsimp only at hSw); first | (go_simp; done) | (go_simp; with_reducible rfl) | (trace_state; fail)
            try simp only [Act.put, List.setIfInBounds_toArray, List.set_cons_zero, List.set_cons_succ]
            refine wpAnyH_take (i := 4) (oi := { dst := some 20, op := Op.move (Operand.tmp 0), type := 36, pos := _, after := #[{ on := 3, ground := Ground.guard }], guard := some (3, true) }) (v := undef) rfl (by kernel_rfl) (by kernel_rfl) (by kernel_rfl) (fun _ _ _ h => h) (Or.inr ⟨by rfl, rfl⟩) (by assumption) ?_
            try simp only [Act.put, List.setIfInBounds_toArray, List.set_cons_zero, List.set_cons_succ]
            refine wpAnyH_take (i := 5) (oi := { dst := some 21, op := Op.move (Operand.tmp 7), type := 3, pos := _, after := #[{ on := 3, ground := Ground.guard }], guard := some (3, true) }) (v := undef) rfl (by kernel_rfl) (by kernel_rfl) (by kernel_rfl) (fun _ _ _ h => h) (Or.inr ⟨by rfl, rfl⟩) (by assumption) ?_
            try simp only [Act.put, List.setIfInBounds_toArray, List.set_cons_zero, List.set_cons_succ]
            refine wpAnyH_take (i := 6) (oi := { dst := some 22, op := Op.indexAddr 36 (Operand.tmp 20) (Operand.tmp 21), type := 0, pos := _, after := #[{ on := 4, ground := Ground.data }, { on := 5, ground := Ground.data }, { on := 3, ground := Ground.guard }], guard := some (3, true) }) (v := undef) rfl (by kernel_rfl) (by kernel_rfl) (by kernel_rfl) (fun _ _ _ h => h) (Or.inr ⟨by rfl, rfl⟩) (by assumption) ?_
            try simp only [Act.put, List.setIfInBounds_toArray, List.set_cons_zero, List.set_cons_succ]
            refine wpAnyH_take (i := 7) (oi := { dst := some 23, op := Op.load 3 (Operand.tmp 22), type := 3, pos := _, after := #[{ on := 6, ground := Ground.data }, { on := 3, ground := Ground.guard }], guard := some (3, true) }) (v := undef) rfl (by kernel_rfl) (by kernel_rfl) (by kernel_rfl) (fun _ _ _ h => h) (Or.inr ⟨by rfl, rfl⟩) (by assumption) ?_
            try simp only [Act.put, List.setIfInBounds_toArray, List.set_cons_zero, List.set_cons_succ]
            refine wpAnyH_take (i := 8) (oi := { dst := some 24, op := Op.move (Operand.tmp 0), type := 36, pos := _, after := #[{ on := 3, ground := Ground.guard }], guard := some (3, true) }) (v := undef) rfl (by kernel_rfl) (by kernel_rfl) (by kernel_rfl) (fun _ _ _ h => h) (Or.inr ⟨by rfl, rfl⟩) (by assumption) ?_
            try simp only [Act.put, List.setIfInBounds_toArray, List.set_cons_zero, List.set_cons_succ]
            refine wpAnyH_take (i := 9) (oi := { dst := some 25, op := Op.move (Operand.tmp 7), type := 3, pos := _, after := #[{ on := 3, ground := Ground.guard }], guard := some (3, true) }) (v := undef) rfl (by kernel_rfl) (by kernel_rfl) (by kernel_rfl) (fun _ _ _ h => h) (Or.inr ⟨by rfl, rfl⟩) (by assumption) ?_
            try simp only [Act.put, List.setIfInBounds_toArray, List.set_cons_zero, List.set_cons_succ]
            refine wpAnyH_take (i := 10) (oi := { dst := some 26, op := Op.binOp BinOp.sub 3 (Operand.tmp 25) (Operand.const (Value.int IntKind.i64 1)) 3, type := 3, pos := _, after := #[{ on := 9, ground := Ground.data }, { on := 3, ground := Ground.guard }], guard := some (3, true) }) (v := undef) rfl (by kernel_rfl) (by kernel_rfl) (by kernel_rfl) (fun _ _ _ h => h) (Or.inr ⟨by rfl, rfl⟩) (by assumption) ?_
            try simp only [Act.put, List.setIfInBounds_toArray, List.set_cons_zero, List.set_cons_succ]
            refine wpAnyH_take (i := 11) (oi := { dst := some 27, op := Op.indexAddr 36 (Operand.tmp 24) (Operand.tmp 26), type := 0, pos := _, after := #[{ on := 8, ground := Ground.data }, { on := 10, ground := Ground.data }, { on := 3, ground := Ground.guard }], guard := some (3, true) }) (v := undef) rfl (by kernel_rfl) (by kernel_rfl) (by kernel_rfl) (fun _ _ _ h => h) (Or.inr ⟨by rfl, rfl⟩) (by assumption) ?_
            try simp only [Act.put, List.setIfInBounds_toArray, List.set_cons_zero, List.set_cons_succ]
            refine wpAnyH_take (i := 12) (oi := { dst := some 28, op := Op.load 3 (Operand.tmp 27), type := 3, pos := _, after := #[{ on := 11, ground := Ground.data }, { on := 3, ground := Ground.guard }], guard := some (3, true) }) (v := undef) rfl (by kernel_rfl) (by kernel_rfl) (by kernel_rfl) (fun _ _ _ h => h) (Or.inr ⟨by rfl, rfl⟩) (by assumption) ?_
            try simp only [Act.put, List.setIfInBounds_toArray, List.set_cons_zero, List.set_cons_succ]
            refine wpAnyH_take (i := 13) (oi := { dst := some 29, op := Op.call { callee := Callee.value (Operand.func 69), args := #[Operand.tmp 23, Operand.tmp 28], argTypes := #[3, 3] }, type := 4, pos := _, after := #[{ on := 7, ground := Ground.data }, { on := 12, ground := Ground.data }, { on := 3, ground := Ground.chain }, { on := 3, ground := Ground.guard }], guard := some (3, true) }) (v := undef) rfl (by kernel_rfl) (by kernel_rfl) (by kernel_rfl) (fun _ _ _ h => h) (Or.inr ⟨by rfl, rfl⟩) (by assumption) ?_
            try simp only [Act.put, List.setIfInBounds_toArray, List.set_cons_zero, List.set_cons_succ]
            refine wpAnyH_take (i := 14) (oi := { dst := some 30, op := Op.pick (Operand.tmp 19) (Operand.tmp 29) (Operand.const (Value.bool false)), type := 4, pos := _, after := #[{ on := 3, ground := Ground.data }, { on := 13, ground := Ground.data }], guard := none }) (v := ?_) rfl (by kernel_rfl) (by kernel_rfl) (by kernel_rfl) (fun _ _ _ h => h) (Or.inl ⟨by rfl, ?_⟩) (by assumption) ?_
            rotate_left
            · intro wt hSw; (try dsimp only at hSw); first | (go_simp; done) | (go_simp; with_reducible rfl) | (trace_state; fail)
            try simp only [Act.put, List.setIfInBounds_toArray, List.set_cons_zero, List.set_cons_succ]
            refine wpAnyH_done (by kernel_rfl) ?_ _
            have hQ := Lib.hid (And.intro (bh_grown_below hP.out.1 hHeld) ((hHeld.block g hg').trans hP.out.2))
            go_wp2_with fail
            go_roundw
            case rel => exact Or.inr ⟨rfl, hQ⟩
            case measure => simp [intOf]
      · go_wp2_with fail
        go_end0
        exact ⟨⟨_, rfl⟩, hP.out⟩
  · rw [if_neg hlt, if_neg hlt]
    have hl : decide (b < a) = false := decide_eq_false hlt
    have hw0 : IntKind.i64.wrap 0 = 0 := by decide
    clear hlt
    have HH := Lib.hid h
    have c0 := bh_cell h 0 (v := .int .i64 a) rfl
    have c1 := bh_cell h 1 (v := .int .i64 b) rfl
    clear h
    go_enter Tryd.func63, Tryd.ntmps63
    go_wp2_with fail
    go_loopw [6] (fun i wr => (i = .int .i64 1 ∧ wr = w) ∨ (i = .int .i64 2 ∧ Hid (w.grownBy wr (some g) ∧ wr.heap[g]? = some (.cells #[.int .i64 a, .int .i64 b] 3)))) (fun i _ => 2 - (intOf i).toNat)
    case atStart => exact Or.inl ⟨rfl, rfl⟩
    case round =>
      rcases hrel with ⟨rfl, rfl⟩ | ⟨rfl, hP⟩
      · go_wp2_with fail
        go_loopw [7] (fun j wx => j = .int .i64 1 ∧ wx = wr) (fun j _ => (intOf j).toNat)
        case atStart => exact ⟨rfl, rfl⟩
        case round =>
          obtain ⟨rfl, rfl⟩ := hrel
          go_wp2_with fail
          refine wp_region_held_drew (S := (fun w' => Below wr.heap.size wr w')) (by kernel_rfl) ?_ (fun hHeld => ?_)
          · (try dsimp only); first | assumption | exact Below.alloc hHeld hHeld.size _ | exact (Below.refl _ _).drew | exact Below.drew (Below.refl _ _) | exact Below_drewN _ _ _ | exact Below.refl _ _ | (trace_state; fail)
          refine wpAnyH_take (i := 0) (oi := { dst := some 16, op := Op.move (Operand.tmp 7), type := 3, pos := _, after := #[], guard := none }) (v := ?_) rfl (by kernel_rfl) (by kernel_rfl) (by kernel_rfl) (fun _ _ _ h => h) (Or.inl ⟨by rfl, ?_⟩) (by assumption) ?_
          rotate_left
          · intro wt hSw; (try dsimp only at hSw); have c0 := cellB hSw c0 hg; have c1 := cellB hSw c1 hg; first | (go_simp; done) | (go_simp; with_reducible rfl) | (trace_state; fail)
          try simp only [Act.put, List.setIfInBounds_toArray, List.set_cons_zero, List.set_cons_succ]
          refine wpAnyH_take (i := 1) (oi := { dst := some 17, op := Op.move (Operand.tmp 1), type := 3, pos := _, after := #[], guard := none }) (v := ?_) rfl (by kernel_rfl) (by kernel_rfl) (by kernel_rfl) (fun _ _ _ h => h) (Or.inl ⟨by rfl, ?_⟩) (by assumption) ?_
          rotate_left
          · intro wt hSw; (try dsimp only at hSw); have c0 := cellB hSw c0 hg; have c1 := cellB hSw c1 hg; first | (go_simp; done) | (go_simp; with_reducible rfl) | (trace_state; fail)
          try simp only [Act.put, List.setIfInBounds_toArray, List.set_cons_zero, List.set_cons_succ]
          refine wpAnyH_take (i := 2) (oi := { dst := some 18, op := Op.binOp BinOp.gtr 3 (Operand.tmp 16) (Operand.tmp 17) 3, type := 4, pos := _, after := #[{ on := 0, ground := Ground.data }, { on := 1, ground := Ground.data }], guard := none }) (v := ?_) rfl (by kernel_rfl) (by kernel_rfl) (by kernel_rfl) (fun _ _ _ h => h) (Or.inl ⟨by rfl, ?_⟩) (by assumption) ?_
          rotate_left
          · intro wt hSw; (try dsimp only at hSw); have c0 := cellB hSw c0 hg; have c1 := cellB hSw c1 hg; first | (go_simp; done) | (go_simp; with_reducible rfl) | (trace_state; fail)
          try simp only [Act.put, List.setIfInBounds_toArray, List.set_cons_zero, List.set_cons_succ]
          refine wpAnyH_take (i := 3) (oi := { dst := some 19, op := Op.move (Operand.tmp 18), type := 4, pos := _, after := #[{ on := 2, ground := Ground.data }], guard := none }) (v := ?_) rfl (by kernel_rfl) (by kernel_rfl) (by kernel_rfl) (fun _ _ _ h => h) (Or.inl ⟨by rfl, ?_⟩) (by assumption) ?_
          rotate_left
          · intro wt hSw; (try dsimp only at hSw); have c0 := cellB hSw c0 hg; have c1 := cellB hSw c1 hg; first | (go_simp; done) | (go_simp; with_reducible rfl) | (trace_state; fail)
          try simp only [Act.put, List.setIfInBounds_toArray, List.set_cons_zero, List.set_cons_succ]
          refine wpAnyH_take (i := 4) (oi := { dst := some 20, op := Op.move (Operand.tmp 0), type := 36, pos := _, after := #[{ on := 3, ground := Ground.guard }], guard := some (3, true) }) (v := ?_) rfl (by kernel_rfl) (by kernel_rfl) (by kernel_rfl) (fun _ _ _ h => h) (Or.inl ⟨by rfl, ?_⟩) (by assumption) ?_
          rotate_left
          · intro wt hSw; (try dsimp only at hSw); have c0 := cellB hSw c0 hg; have c1 := cellB hSw c1 hg; first | (go_simp; done) | (go_simp; with_reducible rfl) | (trace_state; fail)
          try simp only [Act.put, List.setIfInBounds_toArray, List.set_cons_zero, List.set_cons_succ]
          refine wpAnyH_take (i := 5) (oi := { dst := some 21, op := Op.move (Operand.tmp 7), type := 3, pos := _, after := #[{ on := 3, ground := Ground.guard }], guard := some (3, true) }) (v := ?_) rfl (by kernel_rfl) (by kernel_rfl) (by kernel_rfl) (fun _ _ _ h => h) (Or.inl ⟨by rfl, ?_⟩) (by assumption) ?_
          rotate_left
          · intro wt hSw; (try dsimp only at hSw); have c0 := cellB hSw c0 hg; have c1 := cellB hSw c1 hg; first | (go_simp; done) | (go_simp; with_reducible rfl) | (trace_state; fail)
          try simp only [Act.put, List.setIfInBounds_toArray, List.set_cons_zero, List.set_cons_succ]
          refine wpAnyH_take (i := 6) (oi := { dst := some 22, op := Op.indexAddr 36 (Operand.tmp 20) (Operand.tmp 21), type := 0, pos := _, after := #[{ on := 4, ground := Ground.data }, { on := 5, ground := Ground.data }, { on := 3, ground := Ground.guard }], guard := some (3, true) }) (v := ?_) rfl (by kernel_rfl) (by kernel_rfl) (by kernel_rfl) (fun _ _ _ h => h) (Or.inl ⟨by rfl, ?_⟩) (by assumption) ?_
          rotate_left
          · intro wt hSw; (try dsimp only at hSw); have c0 := cellB hSw c0 hg; have c1 := cellB hSw c1 hg; first | (go_simp; done) | (go_simp; with_reducible rfl) | (trace_state; fail)
          try simp only [Act.put, List.setIfInBounds_toArray, List.set_cons_zero, List.set_cons_succ]
          refine wpAnyH_take (i := 7) (oi := { dst := some 23, op := Op.load 3 (Operand.tmp 22), type := 3, pos := _, after := #[{ on := 6, ground := Ground.data }, { on := 3, ground := Ground.guard }], guard := some (3, true) }) (v := ?_) rfl (by kernel_rfl) (by kernel_rfl) (by kernel_rfl) (fun _ _ _ h => h) (Or.inl ⟨by rfl, ?_⟩) (by assumption) ?_
          rotate_left
          · intro wt hSw; (try dsimp only at hSw); have c0 := cellB hSw c0 hg; have c1 := cellB hSw c1 hg; first | (go_simp; done) | (go_simp; with_reducible rfl) | (trace_state; fail)
          try simp only [Act.put, List.setIfInBounds_toArray, List.set_cons_zero, List.set_cons_succ]
          refine wpAnyH_take (i := 8) (oi := { dst := some 24, op := Op.move (Operand.tmp 0), type := 36, pos := _, after := #[{ on := 3, ground := Ground.guard }], guard := some (3, true) }) (v := ?_) rfl (by kernel_rfl) (by kernel_rfl) (by kernel_rfl) (fun _ _ _ h => h) (Or.inl ⟨by rfl, ?_⟩) (by assumption) ?_
          rotate_left
          · intro wt hSw; (try dsimp only at hSw); have c0 := cellB hSw c0 hg; have c1 := cellB hSw c1 hg; first | (go_simp; done) | (go_simp; with_reducible rfl) | (trace_state; fail)
          try simp only [Act.put, List.setIfInBounds_toArray, List.set_cons_zero, List.set_cons_succ]
          refine wpAnyH_take (i := 9) (oi := { dst := some 25, op := Op.move (Operand.tmp 7), type := 3, pos := _, after := #[{ on := 3, ground := Ground.guard }], guard := some (3, true) }) (v := ?_) rfl (by kernel_rfl) (by kernel_rfl) (by kernel_rfl) (fun _ _ _ h => h) (Or.inl ⟨by rfl, ?_⟩) (by assumption) ?_
          rotate_left
          · intro wt hSw; (try dsimp only at hSw); have c0 := cellB hSw c0 hg; have c1 := cellB hSw c1 hg; first | (go_simp; done) | (go_simp; with_reducible rfl) | (trace_state; fail)
          try simp only [Act.put, List.setIfInBounds_toArray, List.set_cons_zero, List.set_cons_succ]
          refine wpAnyH_take (i := 10) (oi := { dst := some 26, op := Op.binOp BinOp.sub 3 (Operand.tmp 25) (Operand.const (Value.int IntKind.i64 1)) 3, type := 3, pos := _, after := #[{ on := 9, ground := Ground.data }, { on := 3, ground := Ground.guard }], guard := some (3, true) }) (v := ?_) rfl (by kernel_rfl) (by kernel_rfl) (by kernel_rfl) (fun _ _ _ h => h) (Or.inl ⟨by rfl, ?_⟩) (by assumption) ?_
          rotate_left
          · intro wt hSw; (try dsimp only at hSw); have c0 := cellB hSw c0 hg; have c1 := cellB hSw c1 hg; first | (go_simp; done) | (go_simp; with_reducible rfl) | (trace_state; fail)
          try simp only [Act.put, List.setIfInBounds_toArray, List.set_cons_zero, List.set_cons_succ]
          refine wpAnyH_take (i := 11) (oi := { dst := some 27, op := Op.indexAddr 36 (Operand.tmp 24) (Operand.tmp 26), type := 0, pos := _, after := #[{ on := 8, ground := Ground.data }, { on := 10, ground := Ground.data }, { on := 3, ground := Ground.guard }], guard := some (3, true) }) (v := ?_) rfl (by kernel_rfl) (by kernel_rfl) (by kernel_rfl) (fun _ _ _ h => h) (Or.inl ⟨by rfl, ?_⟩) (by assumption) ?_
          rotate_left
          · intro wt hSw; (try dsimp only at hSw); have c0 := cellB hSw c0 hg; have c1 := cellB hSw c1 hg; first | (go_simp; done) | (go_simp; with_reducible rfl) | (trace_state; fail)
          try simp only [Act.put, List.setIfInBounds_toArray, List.set_cons_zero, List.set_cons_succ]
          refine wpAnyH_take (i := 12) (oi := { dst := some 28, op := Op.load 3 (Operand.tmp 27), type := 3, pos := _, after := #[{ on := 11, ground := Ground.data }, { on := 3, ground := Ground.guard }], guard := some (3, true) }) (v := ?_) rfl (by kernel_rfl) (by kernel_rfl) (by kernel_rfl) (fun _ _ _ h => h) (Or.inl ⟨by rfl, ?_⟩) (by assumption) ?_
          rotate_left
          · intro wt hSw; (try dsimp only at hSw); have c0 := cellB hSw c0 hg; have c1 := cellB hSw c1 hg; first | (go_simp; done) | (go_simp; with_reducible rfl) | (trace_state; fail)
          try simp only [Act.put, List.setIfInBounds_toArray, List.set_cons_zero, List.set_cons_succ]
          refine wpAnyH_ready (rs := [13]) (by kernel_rfl) (by simp) ?_
          refine AllReadyH.cons (o := { dst := some 29, op := Op.call { callee := Callee.value (Operand.func 69), args := #[Operand.tmp 23, Operand.tmp 28], argTypes := #[3, 3] }, type := 4, pos := _, after := #[{ on := 7, ground := Ground.data }, { on := 12, ground := Ground.data }, { on := 3, ground := Ground.chain }, { on := 3, ground := Ground.guard }], guard := some (3, true) }) rfl (fun K hK => ?_) AllReadyH.nil
          go_simp
          refine (cmp_Less b a _).mono ?_; rintro e v1 ⟨rfl, rfl⟩
          go_wp2_with fail
          refine hK.out _ _ ?_ (fun hHeld => ?_)
          · (try dsimp only); first | assumption | exact Below.alloc hHeld hHeld.size _ | exact (Below.refl _ _).drew | exact Below.drew (Below.refl _ _) | exact Below_drewN _ _ _ | exact Below.refl _ _ | (trace_state; fail)
          clear hK K
          try simp only [Act.put, List.setIfInBounds_toArray, List.set_cons_zero, List.set_cons_succ]
          refine wpAnyH_take (i := 14) (oi := { dst := some 30, op := Op.pick (Operand.tmp 19) (Operand.tmp 29) (Operand.const (Value.bool false)), type := 4, pos := _, after := #[{ on := 3, ground := Ground.data }, { on := 13, ground := Ground.data }], guard := none }) (v := ?_) rfl (by kernel_rfl) (by kernel_rfl) (by kernel_rfl) (fun _ _ _ h => h) (Or.inl ⟨by rfl, ?_⟩) (by assumption) ?_
          rotate_left
          · intro wt hSw; (try dsimp only at hSw); have c0 := cellB hSw c0 hg; have c1 := cellB hSw c1 hg; first | (go_simp; done) | (go_simp; with_reducible rfl) | (trace_state; fail)
          try simp only [Act.put, List.setIfInBounds_toArray, List.set_cons_zero, List.set_cons_succ]
          refine wpAnyH_done (by kernel_rfl) ?_ _
          have hQ := Lib.hid (And.intro (bh_grown_below (World.grownBy.refl _ (some g)) hHeld) ((hHeld.block g hg).trans HH.out))
          go_wp2_with fail
          go_roundw
          case rel => exact Or.inr ⟨rfl, hQ⟩
          case measure => simp [intOf]
      · go_wp2_with fail
        go_end0
        exact ⟨⟨_, rfl⟩, hP.out⟩
set_option maxRecDepth 100000 in
set_option maxHeartbeats 4000000 in
theorem pdq2 (g : Nat) (a b z : Int) (w : World) (hg : g < w.heap.size) (h : w.heap[g]? = some (.cells #[.int .i64 a, .int .i64 b] 3)) :
    Calls Tryd.prog 43 #[.slice (some ⟨g, 0, none⟩) 2 2, .int .i64 0, .int .i64 2, .int .i64 z] w fun e w' => (∃ u, e = .returned u) ∧ w.grownBy w' (some g) ∧ w'.heap[g]? = some (.cells #[.int .i64 (if b < a then b else a), .int .i64 (if b < a then a else b)] 3) := by
  have HI := Lib.hid (ins2 g a b w hg h)
  generalize (if b < a then b else a) = x at *
  generalize (if b < a then a else b) = y at *
  clear h
  have hw2 : IntKind.i64.wrap 2 = 2 := by decide
  go_enter Tryd.func43, Tryd.ntmps43
  go_wp2_with fail
  go_loopw [1, 2] (fun x1 x2 wr => x1 = .int .i64 0 ∧ x2 = .int .i64 2 ∧ wr = w) (fun _ _ _ => 0)
  case atStart => exact ⟨rfl, rfl, rfl⟩
  case round =>
    obtain ⟨rfl, rfl, rfl⟩ := hrel
    go_wp2_with fail
    refine HI.out.mono ?_; rintro e w1 ⟨⟨u, rfl⟩, hQ1, hQ2⟩
    have HQ := Lib.hid (And.intro hQ1 hQ2)
    clear hQ1 hQ2 HI
    go_wp2_with fail
    go_returns
    exact ⟨⟨_, rfl⟩, HQ.out.1, HQ.out.2⟩
set_option maxRecDepth 100000 in
set_option maxHeartbeats 4000000 in
theorem sort2 (g : Nat) (a b : Int) (w : World) (hg : g < w.heap.size) (h : w.heap[g]? = some (.cells #[.int .i64 a, .int .i64 b] 3)) :
    Calls Tryd.prog 24 #[.slice (some ⟨g, 0, none⟩) 2 2] w fun e w' => (∃ u, e = .returned u) ∧ w.grownBy w' (some g) ∧ w'.heap[g]? = some (.cells #[.int .i64 (if b < a then b else a), .int .i64 (if b < a then a else b)] 3) := by
  have HI := Lib.hid (fun z => pdq2 g a b z w hg h)
  generalize (if b < a then b else a) = x at *
  generalize (if b < a then a else b) = y at *
  clear h
  go_enter Tryd.func24, Tryd.ntmps24
  go_wp2_with (first | (go_at_call 43; refine (HI.out _).mono ?_; rintro e w1 ⟨⟨u, rfl⟩, hQ1, hQ2⟩; have HQ := Lib.hid (And.intro hQ1 hQ2); clear hQ1 hQ2 HI) | go_in | fail)
  first | (go_end0; done) | skip
  go_end0
  exact ⟨⟨_, rfl⟩, HQ.out.1, HQ.out.2⟩
theorem bh_row {w : World} {b : Nat} {z : Int} (h : w.cell? ⟨b, 0, none⟩ = some (.int .i64 z)) (hz : I64 z) : RowR 1 intR w (.slice (some ⟨b, 0, none⟩) 1 2) [z] :=
  Or.inr ⟨b, 0, 2, rfl, by simp, by simp, by unfold maxLen; omega, World.block_lt_of_cell? w _ h, fun i x hx => by
    have hi : i < 1 := lt_of_get hx
    obtain rfl : i = 0 := by omega
    obtain rfl : z = x := by simpa using hx
    refine ⟨[.int .i64 z], rfl, fun j u hu => ?_, rfl, hz⟩
    have hj : j < 1 := lt_of_get hu
    obtain rfl : j = 0 := by omega
    obtain rfl : Value.int .i64 z = u := by simpa using hu
    exact h⟩
set_option maxRecDepth 100000 in
set_option maxHeartbeats 4000000 in
theorem compact2 (g : Nat) (x y : Int) (w : World) (hg : g < w.heap.size) (h : w.heap[g]? = some (.cells #[.int .i64 x, .int .i64 y] 3)) (hx : I64 x) (hy : I64 y) :
    Calls Tryd.prog 25 #[.slice (some ⟨g, 0, none⟩) 2 2] w fun e w' => ∃ r, e = .returned r ∧ RowR 1 intR w' r (if x = y then [x] else [x, y]) ∧ w.grownBy w' (some g) := by
  have HH := Lib.hid h
  have c0 := bh_cell h 0 (v := .int .i64 x) rfl
  have c1 := bh_cell h 1 (v := .int .i64 y) rfl
  have f1 := bh_free h 1
  have hw0 : IntKind.i64.wrap 0 = 0 := by decide
  have HX := Lib.hid (And.intro hx hy)
  have hzero : ∀ w, (zeroValue 3).run Tryd.prog w = .ok (.int .i64 0) w := fun w => by first | rfl | kernel_rfl | (simp [zeroValue]; rfl)
  clear h hx hy
  by_cases hxy : x = y
  · have q : (y == x) = true := by simp [hxy]
    rw [if_pos hxy]
    clear hxy
    go_enter Tryd.func25, Tryd.ntmps25
    go_wp2_with fail
    go_loopw [3] (fun j wr => j = .int .i64 1 ∧ wr = w) (fun _ _ => 0)
    case atStart => exact ⟨rfl, rfl⟩
    case round =>
      obtain ⟨rfl, rfl⟩ := hrel
      go_wp2_with fail
      go_quiet (fail)
      go_wp2_with fail
      go_loopw [3, 5] (fun a3 a5 wx => a3 = .int .i64 1 ∧ a5 = .int .i64 1 ∧ ∃ m, wx = wr.drewN m) (fun _ _ _ => 0)
      case atStart => exact ⟨rfl, rfl, _, rfl⟩
      case round =>
        obtain ⟨rfl, rfl, m, rfl⟩ := hrel
        have hcl : ∀ ty, (Builtin.clear_ #[36] ty #[.slice (some ⟨g, 1, none⟩) 1 1]).run Tryd.prog (wr.drewN m) = .ok (.tuple #[]) ((wr.drewN m).setCells g 1 [.int .i64 0]) := fun ty => Lib.run_clear_slice (wr.drewN m) 36 3 ty (.int .i64 0) Tryd.underlying36 hzero rfl rfl g 1 1 1 (by omega) (fun j hj => by obtain rfl : j = 0 := (by omega); exact (by rw [show (wr.drewN m).cell? ⟨g, 1 + 0, none⟩ = wr.cell? ⟨g, 1, none⟩ from rfl, c1]; rfl)) (fun j hj => by obtain rfl : j = 0 := (by omega); exact f1)
        have hc0 := bh_cell (bh_set HH.out (o := 1) (.int .i64 0)) 0 (v := .int .i64 x) rfl
        have hrow := Lib.hid (show RowR 1 intR ((wr.drewN m).setCells g 1 [.int .i64 0]) (.slice (some ⟨g, 0, none⟩) 1 2) [x] from bh_row hc0 HX.out.1)
        have hG := Lib.hid (show wr.grownBy ((wr.drewN m).setCells g 1 [.int .i64 0]) (some g) from bh_grown_set (bh_grown_below (World.grownBy.refl wr (some g)) (Below_drewN wr.heap.size wr m)) (.int .i64 0))
        go_wp2_with fail
        go_ret
        exact ⟨_, rfl, hrow.out, hG.out⟩
  · have q : (y == x) = false := by simp; omega
    rw [if_neg hxy]
    clear hxy
    go_enter Tryd.func25, Tryd.ntmps25
    go_wp2_with fail
    go_loopw [3] (fun j wr => (j = .int .i64 1 ∨ j = .int .i64 2) ∧ ∃ m, wr = w.drewN m) (fun j _ => 2 - (intOf j).toNat)
    case atStart => exact ⟨Or.inl rfl, 0, rfl⟩
    case round =>
      obtain ⟨rfl | rfl, m, rfl⟩ := hrel
      · go_wp2_with fail
        go_quiet (fail)
        go_wp2_with fail
        go_roundw
        case rel => exact ⟨Or.inr rfl, _, rfl⟩
        case measure => simp [intOf]
      · have hrow := Lib.hid (row_cells2 (w := w.drewN m) c0 c1 HX.out.1 HX.out.2)
        have hG := Lib.hid (bh_grown_below (World.grownBy.refl w (some g)) (Below_drewN w.heap.size w m))
        go_wp2_with fail
        go_ret
        exact ⟨_, rfl, hrow.out, hG.out⟩
end Go.Proofs.YtnkmnmlhjanplaaDoor

/- Layer 20: where one may come: the answer's, by each place; the program's. -/
namespace Go.Proofs.YtnkmnmlhjanplaaDoor
open Go.RowKit
set_option linter.unusedSimpArgs false
set_option linter.unusedVariables false
theorem bh_get {w : World} {v : Value} {L : List Ins} (hv : RowR 3 insR w v L) : ∃ a cap, v = .slice a L.length cap := row_get hv
theorem bh_at {w : World} {a : Option Addr} {n cap : Nat} {L : List Ins} (hv : RowR 3 insR w (.slice a n cap) L) {k : Nat} (hk : k < L.length) : ∃ b off, a = some ⟨b, off, none⟩ ∧ b < w.heap.size ∧ ∀ i x, L[i]? = some x → w.cell? ⟨b, off + i * 3, none⟩ = some (.int .i64 x.1) ∧ w.cell? ⟨b, off + i * 3 + 1, none⟩ = some (.int .i64 x.2.1) ∧ w.cell? ⟨b, off + i * 3 + 2, none⟩ = some (.int .i64 x.2.2) ∧ I64 x.1 ∧ I64 x.2.1 ∧ I64 x.2.2 := by
  rcases hv with ⟨a, cap, h, rfl, _⟩ | ⟨b, off, cap, h1, _, _, _, h5, h6⟩
  · simp at hk
  · have e : a = some ⟨b, off, none⟩ := by injection h1
    exact ⟨b, off, e, h5, fun i x hx => ins_cells h6 hx⟩
def mayP (x : Ins) (k : Nat) (t : Nat) : Bool :=
  if x.1 = 30 then decide ((t : Int) = x.2.1) else if x.1 = 31 then decide ((t : Int) = k + 1 ∨ (t : Int) = x.2.1) else if x.1 = 32 then decide (k < t ∧ (t : Int) ≤ k + 1 + x.2.1) else if x.1 = 34 then false else decide ((t : Int) = k + 1)
def mayL (x : Ins) (k n : Nat) : List Int := ((List.range n).filter (mayP x k)).map Int.ofNat
theorem mayL_succ (x : Ins) (k n : Nat) : mayL x k (n + 1) = mayL x k n ++ (if mayP x k n = true then [(n : Int)] else []) := by
  unfold mayL
  rw [List.range_succ, List.filter_append, List.map_append]
  congr 1
  by_cases h : mayP x k n = true
  · simp [h]
  · simp [h]
theorem mayL_len (x : Ins) (k n : Nat) : (mayL x k n).length ≤ n := by
  unfold mayL
  rw [List.length_map]
  exact Nat.le_trans (List.length_filter_le _ _) (by simp)
theorem mayL_I64 (x : Ins) (k n : Nat) (hn : n ≤ 70000) : ∀ z ∈ mayL x k n, I64 z := by
  intro z hz
  obtain ⟨t, ht, rfl⟩ := List.mem_map.1 hz
  have := List.mem_range.1 (List.mem_filter.1 ht).1
  unfold I64
  show -9223372036854775808 ≤ (t : Int) ∧ (t : Int) ≤ 9223372036854775807
  omega
set_option maxHeartbeats 4000000 in
theorem ref20_May (v : Value) (L : List Ins) (k t : Nat) (x : Ins) (w : World) (hv : RowR 3 insR w v L) (hx : L[k]? = some x) (hk : k ≤ 300) (ht : t ≤ 70000) (hA : 0 ≤ x.2.1 ∧ x.2.1 ≤ 65535) :
    Calls Tryd.prog 20 #[v, .int .i64 k, .int .i64 t] w fun e w' => e = .returned (.bool (mayP x k t)) ∧ Below w.heap.size w w' := by
  have hkl := lt_of_get hx
  obtain ⟨sa, ca, rfl⟩ := bh_get hv
  obtain ⟨b, off, rfl, hbw, hc⟩ := bh_at hv hkl
  obtain ⟨c0, c1, c2, _⟩ := hc k x hx
  have HD := Lib.hid (show mayP x k t = (if x.1 = 30 then decide ((t : Int) = x.2.1) else if x.1 = 31 then decide ((t : Int) = k + 1 ∨ (t : Int) = x.2.1) else if x.1 = 32 then decide (k < t ∧ (t : Int) ≤ k + 1 + x.2.1) else if x.1 = 34 then false else decide ((t : Int) = k + 1)) from rfl)
  clear hc hx hv
  generalize hn : L.length = n at *
  generalize mayP x k t = res at *
  obtain ⟨o, A, bb⟩ := x
  dsimp only at c0 c1 c2 HD hA
  have hw1 : IntKind.i64.wrap ((k : Int) + 1) = (k : Int) + 1 := IntWalk.i64_in _ (by omega)
  have hw2 : IntKind.i64.wrap ((k : Int) + 1 + A) = (k : Int) + 1 + A := IntWalk.i64_in _ (by omega)
  clear hn
  have hBB : Below w.heap.size w (w.alloc (.cells #[.int .i64 o, .int .i64 A, .int .i64 bb] 45)) := (Below.refl _ _).alloc (Nat.le_refl _) _
  by_cases h30 : o = 30
  · have q0 : (o == 30) = true := by simp [h30]
    rw [if_pos h30] at HD
    have hs := Lib.hid (show ((t : Int) == A) = res by rw [HD.out]; by_cases h : (t : Int) = A <;> simp [h])
    clear h30 HD
    go_enter Tryd.func20, Tryd.ntmps20
    go_wp2_with fail
    go_ret
    exact ⟨by rw [← hs.out]; rfl, hBB⟩
  have q0 : (o == 30) = false := by simpa using h30
  rw [if_neg h30] at HD
  clear h30
  by_cases h31 : o = 31
  · have q1 : (o == 31) = true := by simp [h31]
    rw [if_pos h31] at HD
    clear h31
    by_cases h1 : (t : Int) = k + 1
    · have hs := Lib.hid (show res = true by rw [HD.out]; exact decide_eq_true (Or.inl h1))
      have q2 : ((t : Int) == (k : Int) + 1) = true := by simpa using h1
      clear h1 HD
      go_enter Tryd.func20, Tryd.ntmps20
      go_wp2_with fail
      go_ret
      exact ⟨by rw [hs.out]; rfl, hBB⟩
    · have q2 : ((t : Int) == (k : Int) + 1) = false := by simpa using h1
      have hs := Lib.hid (show ((t : Int) == A) = res by rw [HD.out]; by_cases h : (t : Int) = A <;> simp [h, h1])
      clear h1 HD
      go_enter Tryd.func20, Tryd.ntmps20
      go_wp2_with fail
      go_ret
      exact ⟨by rw [← hs.out]; rfl, hBB⟩
  have q1 : (o == 31) = false := by simpa using h31
  rw [if_neg h31] at HD
  clear h31
  by_cases h32 : o = 32
  · have q2 : (o == 32) = true := by simp [h32]
    rw [if_pos h32] at HD
    clear h32
    by_cases h1 : k < t
    · have q3 : ((k : Int) < (t : Int)) = True := eq_true (by omega)
      by_cases h2 : (t : Int) ≤ k + 1 + A
      · have q4 : ((t : Int) ≤ (k : Int) + 1 + A) = True := eq_true h2
        have hs := Lib.hid (show res = true by rw [HD.out]; exact decide_eq_true ⟨h1, h2⟩)
        clear h1 h2 HD
        go_enter Tryd.func20, Tryd.ntmps20
        go_wp2_with fail
        go_ret
        exact ⟨by rw [hs.out]; rfl, hBB⟩
      · have q4 : ((t : Int) ≤ (k : Int) + 1 + A) = False := eq_false h2
        have hs := Lib.hid (show res = false by rw [HD.out]; exact decide_eq_false (fun g => h2 g.2))
        clear h1 h2 HD
        go_enter Tryd.func20, Tryd.ntmps20
        go_wp2_with fail
        go_ret
        exact ⟨by rw [hs.out]; rfl, hBB⟩
    · have q3 : ((k : Int) < (t : Int)) = False := eq_false (by omega)
      have hs := Lib.hid (show res = false by rw [HD.out]; exact decide_eq_false (fun g => h1 g.1))
      clear h1 HD
      go_enter Tryd.func20, Tryd.ntmps20
      go_wp2_with fail
      go_ret
      exact ⟨by rw [hs.out]; rfl, hBB⟩
  have q2 : (o == 32) = false := by simpa using h32
  rw [if_neg h32] at HD
  clear h32
  by_cases h34 : o = 34
  · have q3 : (o != 34) = false := by simp [h34]
    rw [if_pos h34] at HD
    have hs := Lib.hid HD.out
    clear h34 HD
    go_enter Tryd.func20, Tryd.ntmps20
    go_wp2_with fail
    go_ret
    exact ⟨by rw [hs.out]; rfl, hBB⟩
  · have q3 : (o != 34) = true := by simpa using h34
    rw [if_neg h34] at HD
    have hs := Lib.hid (show ((t : Int) == (k : Int) + 1) = res by rw [HD.out]; by_cases h : (t : Int) = k + 1 <;> simp [h])
    clear h34 HD
    go_enter Tryd.func20, Tryd.ntmps20
    go_wp2_with fail
    go_ret
    exact ⟨by rw [← hs.out]; rfl, hBB⟩
end Go.Proofs.YtnkmnmlhjanplaaDoor

/- Layer 20: where one may come: the program's; both tell the same. -/
namespace Go.Proofs.YtnkmnmlhjanplaaDoor
open Go.RowKit
set_option linter.unusedSimpArgs false
set_option linter.unusedVariables false
def two (a b : Int) : List Int := if (if b < a then b else a) = (if b < a then a else b) then [if b < a then b else a] else [if b < a then b else a, if b < a then a else b]
def behL (x : Ins) (k : Nat) : List Int := if x.1 = 30 then [x.2.1] else if x.1 = 31 then two (k + 1) x.2.1 else if x.1 = 32 then (List.range (x.2.1.toNat + 1)).map (fun (j : Nat) => (k : Int) + 1 + (j : Int)) else if x.1 = 34 then [] else [(k : Int) + 1]
theorem bh_below {B : Nat} {w0 wa w2 : World} {g : Nat} (hb : Below B w0 wa) (hs : B ≤ wa.heap.size) (hg : wa.grownBy w2 (some g)) (hB : B ≤ g) : Below B w0 w2 :=
  hb.trans ⟨hg.os, hg.tape, hg.output, hg.size, fun k hk => hg.block k (by omega) (fun h => by have := Option.some.inj h; omega)⟩
-- plain: filters of a range
theorem filt_one (p : Nat → Bool) (a : Nat) (h : ∀ t, p t = decide (t = a)) : ∀ n, (List.range n).filter p = if a < n then [a] else []
  | 0 => by simp
  | n + 1 => by
    rw [List.range_succ, List.filter_append, filt_one p a h n]
    by_cases h1 : n = a
    · subst h1; simp [h]
    · have h2 : p n = false := by rw [h]; exact decide_eq_false h1
      rw [show [n].filter p = [] by simp [h2]]
      by_cases h3 : a < n
      · rw [if_pos h3, if_pos (show a < n + 1 by omega)]; simp
      · rw [if_neg h3, if_neg (show ¬ a < n + 1 by omega)]; simp
theorem filt_two (p : Nat → Bool) (a b : Nat) (hab : a < b) (h : ∀ t, p t = decide (t = a ∨ t = b)) : ∀ n, (List.range n).filter p = (if a < n then [a] else []) ++ (if b < n then [b] else [])
  | 0 => by simp
  | n + 1 => by
    rw [List.range_succ, List.filter_append, filt_two p a b hab h n]
    by_cases h1 : n = a
    · subst h1
      have h2 : p n = true := by rw [h]; simp
      rw [show [n].filter p = [n] by simp [h2]]
      rw [if_neg (show ¬ n < n by omega), if_neg (show ¬ b < n by omega), if_pos (show n < n + 1 by omega), if_neg (show ¬ b < n + 1 by omega)]; rfl
    · by_cases h3 : n = b
      · subst h3
        have h2 : p n = true := by rw [h]; simp
        rw [show [n].filter p = [n] by simp [h2]]
        rw [if_pos hab, if_neg (show ¬ n < n by omega), if_pos (show a < n + 1 by omega), if_pos (show n < n + 1 by omega)]; rfl
      · have h2 : p n = false := by rw [h]; exact decide_eq_false (by omega)
        rw [show [n].filter p = [] by simp [h2]]
        by_cases h4 : a < n
        · by_cases h5 : b < n
          · rw [if_pos h4, if_pos h5, if_pos (show a < n + 1 by omega), if_pos (show b < n + 1 by omega)]; simp
          · rw [if_pos h4, if_neg h5, if_pos (show a < n + 1 by omega), if_neg (show ¬ b < n + 1 by omega)]; simp
        · rw [if_neg h4, if_neg (show ¬ b < n by omega), if_neg (show ¬ a < n + 1 by omega), if_neg (show ¬ b < n + 1 by omega)]; simp
theorem filt_run (p : Nat → Bool) (lo : Nat) (m : Nat) (h : ∀ t, p t = decide (lo ≤ t ∧ t < lo + m)) : ∀ n, (List.range n).filter p = (List.range (min m (n - lo))).map (lo + ·)
  | 0 => by simp
  | n + 1 => by
    rw [List.range_succ, List.filter_append, filt_run p lo m h n]
    by_cases h1 : lo ≤ n ∧ n < lo + m
    · have h2 : p n = true := by rw [h]; exact decide_eq_true h1
      rw [show [n].filter p = [n] by simp [h2]]
      rw [show min m (n + 1 - lo) = min m (n - lo) + 1 by omega, List.range_succ, List.map_append]
      simp; omega
    · have h2 : p n = false := by rw [h]; exact decide_eq_false h1
      rw [show [n].filter p = [] by simp [h2]]
      rw [show min m (n + 1 - lo) = min m (n - lo) by omega]; simp
theorem may_beh (x : Ins) (k : Nat) (hk : k ≤ 300) (hA : 0 ≤ x.2.1 ∧ x.2.1 ≤ 65535) (h32 : x.1 = 32 → x.2.1 ≤ 300) : mayL x k 70000 = behL x k := by
  obtain ⟨o, A, bb⟩ := x
  dsimp only at hA h32
  obtain ⟨a, rfl⟩ : ∃ a : Nat, A = a := ⟨A.toNat, by omega⟩
  unfold mayL behL
  dsimp only
  by_cases h30 : o = 30
  · rw [if_pos h30, filt_one _ a (fun t => by unfold mayP; rw [if_pos h30]; exact decide_eq_decide.2 (by dsimp only; omega)), if_pos (by omega)]; rfl
  rw [if_neg h30]
  by_cases h31 : o = 31
  · rw [if_pos h31]
    have hp : ∀ t, mayP (o, (a : Int), bb) k t = decide (t = k + 1 ∨ t = a) := fun t => by
      unfold mayP; rw [if_neg h30, if_pos h31]; exact decide_eq_decide.2 (by dsimp only; omega)
    unfold two
    by_cases h1 : a = k + 1
    · rw [filt_one _ a (fun t => by rw [hp]; exact decide_eq_decide.2 (by omega)), if_pos (by omega)]
      rw [if_neg (show ¬ (a : Int) < (k : Int) + 1 by omega), if_neg (show ¬ (a : Int) < (k : Int) + 1 by omega), if_pos (by omega)]
      subst h1; simp
    · by_cases h2 : a < k + 1
      · rw [filt_two _ a (k + 1) h2 (fun t => by rw [hp]; exact decide_eq_decide.2 (by omega)), if_pos (by omega), if_pos (by omega)]
        rw [if_pos (show (a : Int) < (k : Int) + 1 by omega), if_pos (show (a : Int) < (k : Int) + 1 by omega), if_neg (by omega)]
        simp
      · rw [filt_two _ (k + 1) a (by omega) (fun t => by rw [hp]), if_pos (by omega), if_pos (by omega)]
        rw [if_neg (show ¬ (a : Int) < (k : Int) + 1 by omega), if_neg (show ¬ (a : Int) < (k : Int) + 1 by omega), if_neg (by omega)]
        simp
  rw [if_neg h31]
  by_cases h3 : o = 32
  · have ha := h32 h3
    rw [if_pos h3, filt_run _ (k + 1) (a + 1) (fun t => by unfold mayP; rw [if_neg h30, if_neg h31, if_pos h3]; exact decide_eq_decide.2 (by dsimp only; omega))]
    rw [show min (a + 1) (70000 - (k + 1)) = a + 1 by omega, show (a : Int).toNat + 1 = a + 1 by omega, List.map_map]
    refine List.map_congr_left (fun j _ => ?_)
    show ((k + 1 + j : Nat) : Int) = _
    omega
  rw [if_neg h3]
  by_cases h34 : o = 34
  · rw [if_pos h34]
    have : (List.range 70000).filter (mayP (o, (a : Int), bb) k) = [] := List.filter_eq_nil_iff.2 (fun t _ => by unfold mayP; rw [if_neg h30, if_neg h31, if_neg h3, if_pos h34]; simp)
    rw [this]; rfl
  · rw [if_neg h34, filt_one _ (k + 1) (fun t => by unfold mayP; rw [if_neg h30, if_neg h31, if_neg h3, if_neg h34]; exact decide_eq_decide.2 (by omega)), if_pos (by omega)]
    simp
end Go.Proofs.YtnkmnmlhjanplaaDoor

/- Layer 20: where one may come: the program's contract; the law's awake. -/
namespace Go.Proofs.YtnkmnmlhjanplaaDoor
open Go.RowKit
set_option linter.unusedSimpArgs false
set_option linter.unusedVariables false
set_option maxHeartbeats 4000000 in
theorem typing_Behind (v : Value) (L : List Ins) (k : Nat) (x : Ins) (w : World) (hv : RowR 3 insR w v L) (hx : L[k]? = some x) (hl : L.length ≤ 300) (hA : 0 ≤ x.2.1 ∧ x.2.1 ≤ 65535) (h32 : x.1 = 32 → x.2.1 ≤ L.length) :
    Calls Tryd.prog 12 #[v, .int .i64 k] w fun e w' => ∃ r, e = .returned r ∧ RowR 1 intR w' r (behL x k) ∧ Below w.heap.size w w' := by
  obtain ⟨i, hi, hz, hsize, hby⟩ : ∃ i, Tryd.prog.info? 3 = some i ∧ i.zero = some (.int .i64 0) ∧ i.size = 1 ∧ i.bytes = 8 := ⟨(Tryd.prog.info? 3).get!, by kernel_rfl, by kernel_rfl, by kernel_rfl, by kernel_rfl⟩
  have hkl := lt_of_get hx
  obtain ⟨sa, ca, rfl⟩ := bh_get hv
  obtain ⟨b, off, rfl, hbw, hc⟩ := bh_at hv hkl
  obtain ⟨c0, c1, c2, _⟩ := hc k x hx
  have HD := Lib.hid (show behL x k = if x.1 = 30 then [x.2.1] else if x.1 = 31 then two (k + 1) x.2.1 else if x.1 = 32 then (List.range (x.2.1.toNat + 1)).map (fun (j : Nat) => (k : Int) + 1 + (j : Int)) else if x.1 = 34 then [] else [(k : Int) + 1] from rfl)
  clear hc hx hv
  generalize hn : L.length = n at *
  generalize behL x k = res at *
  obtain ⟨o, A, bb⟩ := x
  dsimp only at c0 c1 c2 HD hA h32
  have hw1 : IntKind.i64.wrap ((k : Int) + 1) = (k : Int) + 1 := IntWalk.i64_in _ (by omega)
  have hI1 : I64 ((k : Int) + 1) := by unfold I64; omega
  have hI2 : I64 A := by unfold I64; omega
  have HII := Lib.hid (And.intro hI1 hI2)
  clear hn hI1 hI2
  have q0 : ((k : Int) < 0) = False := eq_false (by omega)
  have q1 : ((n : Int) ≤ (k : Int)) = False := eq_false (by omega)
  obtain ⟨W0, hW0⟩ : ∃ W0, W0 = w.alloc (.cells #[.int .i64 o, .int .i64 A, .int .i64 bb] 45) := ⟨_, rfl⟩
  have hB0 : Below w.heap.size w W0 := by rw [hW0]; exact (Below.refl _ _).alloc (Nat.le_refl _) _
  have hs0 : W0.heap.size = w.heap.size + 1 := by rw [hW0]; simp
  have HS0 := Lib.hid hs0
  have HW0 := Lib.hid hW0
  clear hW0 hs0
  by_cases h30 : o = 30
  · have q2 : (o == 30) = true := by simp [h30]
    rw [if_pos h30] at HD
    clear h30
    have hrow := Lib.hid (show RowR 1 intR (W0.alloc (.cells #[.int .i64 A] 3)) (.slice (some ⟨w.heap.size + 1, 0, none⟩) 1 1) [A] from by rw [← HS0.out]; exact row_cells1 (cell_new W0 _ _ (0, 0) 0 rfl) HII.out.2)
    go_enter Tryd.func12, Tryd.ntmps12
    go_wp2_with fail
    rw [← HW0.out]
    go_ret
    exact ⟨_, rfl, by rw [HD.out]; exact hrow.out, hB0.alloc hB0.size _⟩
  have q2 : (o == 30) = false := by simpa using h30
  rw [if_neg h30] at HD
  clear h30
  by_cases h31 : o = 31
  · have q3 : (o == 31) = true := by simp [h31]
    rw [if_pos h31] at HD
    clear h31
    obtain ⟨W1, hW1⟩ : ∃ W1, W1 = W0.alloc (.cells #[.int .i64 ((k : Int) + 1), .int .i64 A] 3) := ⟨_, rfl⟩
    have hB1 : Below w.heap.size w W1 := by rw [hW1]; exact hB0.alloc hB0.size _
    have hp : W1.heap[w.heap.size + 1]? = some (.cells #[.int .i64 ((k : Int) + 1), .int .i64 A] 3) := by rw [hW1]; exact alloc_get HS0.out.symm
    have hlt : w.heap.size + 1 < W1.heap.size := by rw [hW1]; simp; have := HS0.out; omega
    have HS := Lib.hid (sort2 (w.heap.size + 1) ((k : Int) + 1) A W1 hlt hp)
    have HU : Hid (two ((k : Int) + 1) A = if (if A < (k : Int) + 1 then A else (k : Int) + 1) = (if A < (k : Int) + 1 then (k : Int) + 1 else A) then [if A < (k : Int) + 1 then A else (k : Int) + 1] else [if A < (k : Int) + 1 then A else (k : Int) + 1, if A < (k : Int) + 1 then (k : Int) + 1 else A]) := Lib.hid rfl
    have hIx : I64 (if A < (k : Int) + 1 then A else (k : Int) + 1) := by split; exact HII.out.2; exact HII.out.1
    have hIy : I64 (if A < (k : Int) + 1 then (k : Int) + 1 else A) := by split; exact HII.out.1; exact HII.out.2
    have HIxy := Lib.hid (And.intro hIx hIy)
    clear hIx hIy hp
    generalize (if A < (k : Int) + 1 then A else (k : Int) + 1) = x0 at *
    generalize (if A < (k : Int) + 1 then (k : Int) + 1 else A) = y0 at *
    have HW1 := Lib.hid hW1
    clear hW1
    go_enter Tryd.func12, Tryd.ntmps12
    go_wp2_with fail
    rw [← HW0.out, ← HW1.out]
    refine HS.out.mono ?_; rintro e w2 ⟨⟨u, rfl⟩, hG2, hp2⟩
    have hB2 := bh_below hB1 (by omega) hG2 (by omega)
    have HC := Lib.hid (compact2 (w.heap.size + 1) x0 y0 w2 (Nat.lt_of_lt_of_le hlt hG2.size) hp2 HIxy.out.1 HIxy.out.2)
    have z2 := hG2.size
    clear hG2 hp2
    go_wp2_with fail
    refine HC.out.mono ?_; rintro e w3 ⟨r, rfl, hr, hG3⟩
    have hB3 := bh_below hB2 (by omega) hG3 (by omega)
    have Hr := Lib.hid hr
    clear hr hG3
    go_wp2_with fail
    go_ret
    exact ⟨_, rfl, by rw [HD.out, HU.out]; exact Hr.out, hB3⟩
  have q3 : (o == 31) = false := by simpa using h31
  rw [if_neg h31] at HD
  clear h31
  by_cases h3 : o = 32
  · have q4 : (o == 32) = true := by simp [h3]
    have hAn := h32 h3
    rw [if_pos h3] at HD
    clear h3 h32
    obtain ⟨a, rfl⟩ : ∃ a : Nat, A = a := ⟨A.toNat, by omega⟩
    have r1 : ((a : Int) < 0) = False := eq_false (by omega)
    have r2 : ((n : Int) < (a : Int)) = False := eq_false (by omega)
    have r3 : (0 < (a : Int)) = True ∨ a = 0 := by
      by_cases h : a = 0
      · exact Or.inr h
      · exact Or.inl (eq_true (by omega))
    have hw2 : IntKind.i64.wrap ((a : Int) + 1) = (a : Int) + 1 := IntWalk.i64_in _ (by omega)
    have HD := Lib.hid (show res = (List.range (a + 1)).map (fun (j : Nat) => (k : Int) + 1 + (j : Int)) by rw [HD.out]; rfl)
    clear r3
    have ha : a ≤ 300 := by omega
    have hk3 : k ≤ 300 := by omega
    go_enter Tryd.func12, Tryd.ntmps12
    go_wp2_with fail
    rw [← HW0.out]
    go_loopw [7, 48] (fun o j wr => ∃ t : Nat, t ≤ a + 1 ∧ j = .int .i64 t ∧ Hid (wr.ownsRow w.heap.size 3 1 o t (iV ((List.range t).map (fun (j : Nat) => (k : Int) + 1 + (j : Int))))) ∧ Below w.heap.size w wr) (fun _ j _ => a + 1 - (intOf j).toNat)
    case atStart => exact ⟨0, by omega, rfl, Lib.hid (World.ownsRow_nil _ _ _ _), hB0⟩
    case round =>
      obtain ⟨t, ht, rfl, hO, hB⟩ := hrel
      have hz' := hB.size
      by_cases hlt : t < a + 1
      · have q5 : ((t : Int) < (a : Int) + 1) = True := eq_true (by omega)
        have hw9 : IntKind.i64.wrap ((t : Int) + 1) = (t : Int) + 1 := IntWalk.i64_in _ (by omega)
        have hw8 : IntKind.i64.wrap ((k : Int) + 1 + (t : Int)) = (k : Int) + 1 + (t : Int) := IntWalk.i64_in _ (by omega)
        have HT := Lib.hid (And.intro ht hlt)
        have HO := Lib.hid (owns_below hO.out ((Below.refl _ _).alloc (Nat.le_refl _) (.cells #[.int .i64 ((k : Int) + 1 + (t : Int))] 3)))
        clear ht hlt hO
        generalize hF : (List.range t).map (fun (j : Nat) => (k : Int) + 1 + (j : Int)) = Ft at *
        have HF := Lib.hid hF
        clear hF
        go_wp2_with (first | (at_builtin; go_loud (refine wpList_append_src rfl (.tmp 51) (.tmp 56) 36 rfl w.heap.size 3 i (.int .i64 0) 1 8 Tryd.underlying36 hi hz hsize hby rfl (by omega) _ t _ rfl HO.out _ 1 [.int .i64 ((k : Int) + 1 + (t : Int))] rfl (src_new _ _ _) rfl (by intro u hu; simp at hu; rw [hu]; rfl) (by unfold maxLen; have := HT.out.2; omega) (by have := HT.out.2; omega) (by simp; omega) ?_; intro v3 w3 hO3 hG3; have hB3 := grown3 (hB.alloc hz' _) (by simp; omega) HO.out hG3; have HO3 := Lib.hid hO3; clear hO3 hG3)) | fail)
        go_roundw
        case rel => exact ⟨t + 1, by have := HT.out.2; omega, by simp, Lib.hid (by rw [List.range_succ, List.map_append]; exact own_eq2 HO3.out (by simp) (by rw [HF.out]; simp [iV])), hB3⟩
        case measure => have := HT.out.2; simp [intOf]; omega
      · obtain rfl : t = a + 1 := by omega
        have q5 : (((a + 1 : Nat) : Int) < (a : Int) + 1) = False := eq_false (by omega)
        have hl' : ((List.range (a + 1)).map (fun (j : Nat) => (k : Int) + 1 + (j : Int))).length = a + 1 := by simp
        have hrow := Lib.hid (row_of_owns (own_eq2 hO.out hl'.symm rfl) (by intro z hz; obtain ⟨j, hj, rfl⟩ := List.mem_map.mp hz; have := List.mem_range.mp hj; unfold I64; omega))
        clear hO hl'
        go_wp2_with fail
        go_ret
        exact ⟨_, rfl, by rw [HD.out]; exact hrow.out, hB⟩
  have q4 : (o == 32) = false := by simpa using h3
  rw [if_neg h3] at HD
  clear h3 h32
  by_cases h34 : o = 34
  · have q5 : (o == 34) = true := by simp [h34]
    rw [if_pos h34] at HD
    clear h34
    go_enter Tryd.func12, Tryd.ntmps12
    go_wp2_with fail
    rw [← HW0.out]
    go_ret
    exact ⟨_, rfl, by rw [HD.out]; exact row_none, hB0⟩
  · have q5 : (o == 34) = false := by simpa using h34
    rw [if_neg h34] at HD
    clear h34
    have hrow := Lib.hid (show RowR 1 intR (W0.alloc (.cells #[.int .i64 ((k : Int) + 1)] 3)) (.slice (some ⟨w.heap.size + 1, 0, none⟩) 1 1) [(k : Int) + 1] from by rw [← HS0.out]; exact row_cells1 (cell_new W0 _ _ (0, 0) 0 rfl) HII.out.1)
    go_enter Tryd.func12, Tryd.ntmps12
    go_wp2_with fail
    rw [← HW0.out]
    go_ret
    exact ⟨_, rfl, by rw [HD.out]; exact hrow.out, hB0.alloc hB0.size _⟩
end Go.Proofs.YtnkmnmlhjanplaaDoor

/- Layer 20: where one may come lies in a new block. -/
namespace Go.Proofs.YtnkmnmlhjanplaaDoor
open Go.RowKit
set_option linter.unusedSimpArgs false
set_option linter.unusedVariables false
theorem new_at {w : World} {g n c : Nat} (h : w.heap.size ≤ g) : NewIn w (.slice (some ⟨g, 0, none⟩) n c) := fun a m d e => by cases e; exact h
set_option maxRecDepth 100000 in
set_option maxHeartbeats 4000000 in
theorem compact2N (g : Nat) (x y : Int) (w : World) (hg : g < w.heap.size) (h : w.heap[g]? = some (.cells #[.int .i64 x, .int .i64 y] 3)) (hx : I64 x) (hy : I64 y) :
    Calls Tryd.prog 25 #[.slice (some ⟨g, 0, none⟩) 2 2] w fun e w' => ∃ r, e = .returned r ∧ RowR 1 intR w' r (if x = y then [x] else [x, y]) ∧ w.grownBy w' (some g) ∧ ∃ n c, r = .slice (some ⟨g, 0, none⟩) n c := by
  have HH := Lib.hid h
  have c0 := bh_cell h 0 (v := .int .i64 x) rfl
  have c1 := bh_cell h 1 (v := .int .i64 y) rfl
  have f1 := bh_free h 1
  have hw0 : IntKind.i64.wrap 0 = 0 := by decide
  have HX := Lib.hid (And.intro hx hy)
  have hzero : ∀ w, (zeroValue 3).run Tryd.prog w = .ok (.int .i64 0) w := fun w => by first | rfl | kernel_rfl | (simp [zeroValue]; rfl)
  clear h hx hy
  by_cases hxy : x = y
  · have q : (y == x) = true := by simp [hxy]
    rw [if_pos hxy]
    clear hxy
    go_enter Tryd.func25, Tryd.ntmps25
    go_wp2_with fail
    go_loopw [3] (fun j wr => j = .int .i64 1 ∧ wr = w) (fun _ _ => 0)
    case atStart => exact ⟨rfl, rfl⟩
    case round =>
      obtain ⟨rfl, rfl⟩ := hrel
      go_wp2_with fail
      go_quiet (fail)
      go_wp2_with fail
      go_loopw [3, 5] (fun a3 a5 wx => a3 = .int .i64 1 ∧ a5 = .int .i64 1 ∧ ∃ m, wx = wr.drewN m) (fun _ _ _ => 0)
      case atStart => exact ⟨rfl, rfl, _, rfl⟩
      case round =>
        obtain ⟨rfl, rfl, m, rfl⟩ := hrel
        have hcl : ∀ ty, (Builtin.clear_ #[36] ty #[.slice (some ⟨g, 1, none⟩) 1 1]).run Tryd.prog (wr.drewN m) = .ok (.tuple #[]) ((wr.drewN m).setCells g 1 [.int .i64 0]) := fun ty => Lib.run_clear_slice (wr.drewN m) 36 3 ty (.int .i64 0) Tryd.underlying36 hzero rfl rfl g 1 1 1 (by omega) (fun j hj => by obtain rfl : j = 0 := (by omega); exact (by rw [show (wr.drewN m).cell? ⟨g, 1 + 0, none⟩ = wr.cell? ⟨g, 1, none⟩ from rfl, c1]; rfl)) (fun j hj => by obtain rfl : j = 0 := (by omega); exact f1)
        have hc0 := bh_cell (bh_set HH.out (o := 1) (.int .i64 0)) 0 (v := .int .i64 x) rfl
        have hrow := Lib.hid (show RowR 1 intR ((wr.drewN m).setCells g 1 [.int .i64 0]) (.slice (some ⟨g, 0, none⟩) 1 2) [x] from bh_row hc0 HX.out.1)
        have hG := Lib.hid (show wr.grownBy ((wr.drewN m).setCells g 1 [.int .i64 0]) (some g) from bh_grown_set (bh_grown_below (World.grownBy.refl wr (some g)) (Below_drewN wr.heap.size wr m)) (.int .i64 0))
        go_wp2_with fail
        go_ret
        exact ⟨_, rfl, hrow.out, hG.out, _, _, rfl⟩
  · have q : (y == x) = false := by simp; omega
    rw [if_neg hxy]
    clear hxy
    go_enter Tryd.func25, Tryd.ntmps25
    go_wp2_with fail
    go_loopw [3] (fun j wr => (j = .int .i64 1 ∨ j = .int .i64 2) ∧ ∃ m, wr = w.drewN m) (fun j _ => 2 - (intOf j).toNat)
    case atStart => exact ⟨Or.inl rfl, 0, rfl⟩
    case round =>
      obtain ⟨rfl | rfl, m, rfl⟩ := hrel
      · go_wp2_with fail
        go_quiet (fail)
        go_wp2_with fail
        go_roundw
        case rel => exact ⟨Or.inr rfl, _, rfl⟩
        case measure => simp [intOf]
      · have hrow := Lib.hid (row_cells2 (w := w.drewN m) c0 c1 HX.out.1 HX.out.2)
        have hG := Lib.hid (bh_grown_below (World.grownBy.refl w (some g)) (Below_drewN w.heap.size w m))
        go_wp2_with fail
        go_ret
        exact ⟨_, rfl, hrow.out, hG.out, _, _, rfl⟩
set_option maxHeartbeats 4000000 in
theorem typing_BehindN (v : Value) (L : List Ins) (k : Nat) (x : Ins) (w : World) (hv : RowR 3 insR w v L) (hx : L[k]? = some x) (hl : L.length ≤ 300) (hA : 0 ≤ x.2.1 ∧ x.2.1 ≤ 65535) (h32 : x.1 = 32 → x.2.1 ≤ L.length) :
    Calls Tryd.prog 12 #[v, .int .i64 k] w fun e w' => ∃ r, e = .returned r ∧ RowR 1 intR w' r (behL x k) ∧ Below w.heap.size w w' ∧ NewIn w r := by
  obtain ⟨i, hi, hz, hsize, hby⟩ : ∃ i, Tryd.prog.info? 3 = some i ∧ i.zero = some (.int .i64 0) ∧ i.size = 1 ∧ i.bytes = 8 := ⟨(Tryd.prog.info? 3).get!, by kernel_rfl, by kernel_rfl, by kernel_rfl, by kernel_rfl⟩
  have hkl := lt_of_get hx
  obtain ⟨sa, ca, rfl⟩ := bh_get hv
  obtain ⟨b, off, rfl, hbw, hc⟩ := bh_at hv hkl
  obtain ⟨c0, c1, c2, _⟩ := hc k x hx
  have HD := Lib.hid (show behL x k = if x.1 = 30 then [x.2.1] else if x.1 = 31 then two (k + 1) x.2.1 else if x.1 = 32 then (List.range (x.2.1.toNat + 1)).map (fun (j : Nat) => (k : Int) + 1 + (j : Int)) else if x.1 = 34 then [] else [(k : Int) + 1] from rfl)
  clear hc hx hv
  generalize hn : L.length = n at *
  generalize behL x k = res at *
  obtain ⟨o, A, bb⟩ := x
  dsimp only at c0 c1 c2 HD hA h32
  have hw1 : IntKind.i64.wrap ((k : Int) + 1) = (k : Int) + 1 := IntWalk.i64_in _ (by omega)
  have hI1 : I64 ((k : Int) + 1) := by unfold I64; omega
  have hI2 : I64 A := by unfold I64; omega
  have HII := Lib.hid (And.intro hI1 hI2)
  clear hn hI1 hI2
  have q0 : ((k : Int) < 0) = False := eq_false (by omega)
  have q1 : ((n : Int) ≤ (k : Int)) = False := eq_false (by omega)
  obtain ⟨W0, hW0⟩ : ∃ W0, W0 = w.alloc (.cells #[.int .i64 o, .int .i64 A, .int .i64 bb] 45) := ⟨_, rfl⟩
  have hB0 : Below w.heap.size w W0 := by rw [hW0]; exact (Below.refl _ _).alloc (Nat.le_refl _) _
  have hs0 : W0.heap.size = w.heap.size + 1 := by rw [hW0]; simp
  have HS0 := Lib.hid hs0
  have HW0 := Lib.hid hW0
  clear hW0 hs0
  by_cases h30 : o = 30
  · have q2 : (o == 30) = true := by simp [h30]
    rw [if_pos h30] at HD
    clear h30
    have hrow := Lib.hid (show RowR 1 intR (W0.alloc (.cells #[.int .i64 A] 3)) (.slice (some ⟨w.heap.size + 1, 0, none⟩) 1 1) [A] from by rw [← HS0.out]; exact row_cells1 (cell_new W0 _ _ (0, 0) 0 rfl) HII.out.2)
    go_enter Tryd.func12, Tryd.ntmps12
    go_wp2_with fail
    rw [← HW0.out]
    go_ret
    exact ⟨_, rfl, by rw [HD.out]; exact hrow.out, hB0.alloc hB0.size _, new_at (Nat.le_succ _)⟩
  have q2 : (o == 30) = false := by simpa using h30
  rw [if_neg h30] at HD
  clear h30
  by_cases h31 : o = 31
  · have q3 : (o == 31) = true := by simp [h31]
    rw [if_pos h31] at HD
    clear h31
    obtain ⟨W1, hW1⟩ : ∃ W1, W1 = W0.alloc (.cells #[.int .i64 ((k : Int) + 1), .int .i64 A] 3) := ⟨_, rfl⟩
    have hB1 : Below w.heap.size w W1 := by rw [hW1]; exact hB0.alloc hB0.size _
    have hp : W1.heap[w.heap.size + 1]? = some (.cells #[.int .i64 ((k : Int) + 1), .int .i64 A] 3) := by rw [hW1]; exact alloc_get HS0.out.symm
    have hlt : w.heap.size + 1 < W1.heap.size := by rw [hW1]; simp; have := HS0.out; omega
    have HS := Lib.hid (sort2 (w.heap.size + 1) ((k : Int) + 1) A W1 hlt hp)
    have HU : Hid (two ((k : Int) + 1) A = if (if A < (k : Int) + 1 then A else (k : Int) + 1) = (if A < (k : Int) + 1 then (k : Int) + 1 else A) then [if A < (k : Int) + 1 then A else (k : Int) + 1] else [if A < (k : Int) + 1 then A else (k : Int) + 1, if A < (k : Int) + 1 then (k : Int) + 1 else A]) := Lib.hid rfl
    have hIx : I64 (if A < (k : Int) + 1 then A else (k : Int) + 1) := by split; exact HII.out.2; exact HII.out.1
    have hIy : I64 (if A < (k : Int) + 1 then (k : Int) + 1 else A) := by split; exact HII.out.1; exact HII.out.2
    have HIxy := Lib.hid (And.intro hIx hIy)
    clear hIx hIy hp
    generalize (if A < (k : Int) + 1 then A else (k : Int) + 1) = x0 at *
    generalize (if A < (k : Int) + 1 then (k : Int) + 1 else A) = y0 at *
    have HW1 := Lib.hid hW1
    clear hW1
    go_enter Tryd.func12, Tryd.ntmps12
    go_wp2_with fail
    rw [← HW0.out, ← HW1.out]
    refine HS.out.mono ?_; rintro e w2 ⟨⟨u, rfl⟩, hG2, hp2⟩
    have hB2 := bh_below hB1 (by omega) hG2 (by omega)
    have HC := Lib.hid (compact2N (w.heap.size + 1) x0 y0 w2 (Nat.lt_of_lt_of_le hlt hG2.size) hp2 HIxy.out.1 HIxy.out.2)
    have z2 := hG2.size
    clear hG2 hp2
    go_wp2_with fail
    refine HC.out.mono ?_; rintro e w3 ⟨r, rfl, hr, hG3, nr, cr, rfl⟩
    have hB3 := bh_below hB2 (by omega) hG3 (by omega)
    have Hr := Lib.hid hr
    clear hr hG3
    go_wp2_with fail
    go_ret
    exact ⟨_, rfl, by rw [HD.out, HU.out]; exact Hr.out, hB3, new_at (Nat.le_succ _)⟩
  have q3 : (o == 31) = false := by simpa using h31
  rw [if_neg h31] at HD
  clear h31
  by_cases h3 : o = 32
  · have q4 : (o == 32) = true := by simp [h3]
    have hAn := h32 h3
    rw [if_pos h3] at HD
    clear h3 h32
    obtain ⟨a, rfl⟩ : ∃ a : Nat, A = a := ⟨A.toNat, by omega⟩
    have r1 : ((a : Int) < 0) = False := eq_false (by omega)
    have r2 : ((n : Int) < (a : Int)) = False := eq_false (by omega)
    have r3 : (0 < (a : Int)) = True ∨ a = 0 := by
      by_cases h : a = 0
      · exact Or.inr h
      · exact Or.inl (eq_true (by omega))
    have hw2 : IntKind.i64.wrap ((a : Int) + 1) = (a : Int) + 1 := IntWalk.i64_in _ (by omega)
    have HD := Lib.hid (show res = (List.range (a + 1)).map (fun (j : Nat) => (k : Int) + 1 + (j : Int)) by rw [HD.out]; rfl)
    clear r3
    have ha : a ≤ 300 := by omega
    have hk3 : k ≤ 300 := by omega
    go_enter Tryd.func12, Tryd.ntmps12
    go_wp2_with fail
    rw [← HW0.out]
    go_loopw [7, 48] (fun o j wr => ∃ t : Nat, t ≤ a + 1 ∧ j = .int .i64 t ∧ Hid (wr.ownsRow w.heap.size 3 1 o t (iV ((List.range t).map (fun (j : Nat) => (k : Int) + 1 + (j : Int))))) ∧ Below w.heap.size w wr) (fun _ j _ => a + 1 - (intOf j).toNat)
    case atStart => exact ⟨0, by omega, rfl, Lib.hid (World.ownsRow_nil _ _ _ _), hB0⟩
    case round =>
      obtain ⟨t, ht, rfl, hO, hB⟩ := hrel
      have hz' := hB.size
      by_cases hlt : t < a + 1
      · have q5 : ((t : Int) < (a : Int) + 1) = True := eq_true (by omega)
        have hw9 : IntKind.i64.wrap ((t : Int) + 1) = (t : Int) + 1 := IntWalk.i64_in _ (by omega)
        have hw8 : IntKind.i64.wrap ((k : Int) + 1 + (t : Int)) = (k : Int) + 1 + (t : Int) := IntWalk.i64_in _ (by omega)
        have HT := Lib.hid (And.intro ht hlt)
        have HO := Lib.hid (owns_below hO.out ((Below.refl _ _).alloc (Nat.le_refl _) (.cells #[.int .i64 ((k : Int) + 1 + (t : Int))] 3)))
        clear ht hlt hO
        generalize hF : (List.range t).map (fun (j : Nat) => (k : Int) + 1 + (j : Int)) = Ft at *
        have HF := Lib.hid hF
        clear hF
        go_wp2_with (first | (at_builtin; go_loud (refine wpList_append_src rfl (.tmp 51) (.tmp 56) 36 rfl w.heap.size 3 i (.int .i64 0) 1 8 Tryd.underlying36 hi hz hsize hby rfl (by omega) _ t _ rfl HO.out _ 1 [.int .i64 ((k : Int) + 1 + (t : Int))] rfl (src_new _ _ _) rfl (by intro u hu; simp at hu; rw [hu]; rfl) (by unfold maxLen; have := HT.out.2; omega) (by have := HT.out.2; omega) (by simp; omega) ?_; intro v3 w3 hO3 hG3; have hB3 := grown3 (hB.alloc hz' _) (by simp; omega) HO.out hG3; have HO3 := Lib.hid hO3; clear hO3 hG3)) | fail)
        go_roundw
        case rel => exact ⟨t + 1, by have := HT.out.2; omega, by simp, Lib.hid (by rw [List.range_succ, List.map_append]; exact own_eq2 HO3.out (by simp) (by rw [HF.out]; simp [iV])), hB3⟩
        case measure => have := HT.out.2; simp [intOf]; omega
      · obtain rfl : t = a + 1 := by omega
        have q5 : (((a + 1 : Nat) : Int) < (a : Int) + 1) = False := eq_false (by omega)
        have hl' : ((List.range (a + 1)).map (fun (j : Nat) => (k : Int) + 1 + (j : Int))).length = a + 1 := by simp
        have hrow := Lib.hid (row_of_owns (own_eq2 hO.out hl'.symm rfl) (by intro z hz; obtain ⟨j, hj, rfl⟩ := List.mem_map.mp hz; have := List.mem_range.mp hj; unfold I64; omega))
        have Hnw := Lib.hid (new_of hO.out)
        clear hO hl'
        go_wp2_with fail
        go_ret
        exact ⟨_, rfl, by rw [HD.out]; exact hrow.out, hB, Hnw.out⟩
  have q4 : (o == 32) = false := by simpa using h3
  rw [if_neg h3] at HD
  clear h3 h32
  by_cases h34 : o = 34
  · have q5 : (o == 34) = true := by simp [h34]
    rw [if_pos h34] at HD
    clear h34
    go_enter Tryd.func12, Tryd.ntmps12
    go_wp2_with fail
    rw [← HW0.out]
    go_ret
    exact ⟨_, rfl, by rw [HD.out]; exact row_none, hB0, new_none _ _ _⟩
  · have q5 : (o == 34) = false := by simpa using h34
    rw [if_neg h34] at HD
    clear h34
    have hrow := Lib.hid (show RowR 1 intR (W0.alloc (.cells #[.int .i64 ((k : Int) + 1)] 3)) (.slice (some ⟨w.heap.size + 1, 0, none⟩) 1 1) [(k : Int) + 1] from by rw [← HS0.out]; exact row_cells1 (cell_new W0 _ _ (0, 0) 0 rfl) HII.out.1)
    go_enter Tryd.func12, Tryd.ntmps12
    go_wp2_with fail
    rw [← HW0.out]
    go_ret
    exact ⟨_, rfl, by rw [HD.out]; exact hrow.out, hB0.alloc hB0.size _, new_at (Nat.le_succ _)⟩
end Go.Proofs.YtnkmnmlhjanplaaDoor

/- Layer 18: what is wrong with an instruction's operands, by the answer. -/
namespace Go.Proofs.YtnkmnmlhjanplaaDoor
open Go.RowKit
set_option linter.unusedSimpArgs false
set_option linter.unusedVariables false
theorem typedP_n {o a b : Int} (h : o ≠ 26) (h4 : oA o ≠ 4) : typedP o a b = true := by unfold typedP; rw [if_neg h, show (oA o == 4) = false from beq_eq_false_iff_ne.2 h4]; rfl
theorem typedP_m {o a b : Int} (h : 8 ≤ o ∧ o ≤ 25) : typedP o a b = aGoes o a := by
  obtain ⟨k, rfl⟩ := Int.eq_ofNat_of_zero_le (show 0 ≤ o by omega)
  unfold typedP; rw [if_neg (by omega), (o_mid (k := k) (by omega)).1]; simp
theorem slotsL_len (x : Un) : (slotsL x).length = slotsN x := by
  unfold slotsL slotsN
  by_cases h : x.result = 0
  · rw [if_pos h, if_pos h]; simp
  · rw [if_neg h, if_neg h]; simp; omega
set_option maxRecDepth 100000 in
set_option maxHeartbeats 8000000 in
theorem ref18_One (pc pv pb pu : Value) (p : Pr) (u o a b : Int) (w : World) (h : PrAt w pc pv pb pu p) (hf : fewP p = true) :
    Calls Tryd.prog 31 #[.agg #[pc, pv, pb, pu], .int .i64 u, .agg #[.int .i64 o, .int .i64 a, .int .i64 b]] w fun e w' => e = .returned (.int .i64 (oneP p u o a b)) ∧ Below w.heap.size w w' := by
  have cp := @cell_past
  obtain ⟨⟨f0, f1, f2, f3⟩, _, _, f4⟩ := fewP_is hf
  have HR := Lib.hid (fun W => ref12_Right o a b W)
  have hv := h.vs
  have hbk := h.bs
  have hun := h.us
  obtain ⟨s0, t0, rfl⟩ := row_get h.cs
  obtain ⟨s1, t1, rfl⟩ := row_get h.vs
  obtain ⟨s2, t2, rfl⟩ := row_get h.bs
  obtain ⟨s3, t3, rfl⟩ := row_get h.us
  obtain ⟨W0, hW0⟩ : ∃ W0, W0 = (w.alloc (.cells #[.slice s0 p.consts.length t0, .slice s1 p.vars.length t1, .slice s2 p.blocks.length t2, .slice s3 p.units.length t3] 27)).alloc (.cells #[.int .i64 o, .int .i64 a, .int .i64 b] 45) := ⟨_, rfl⟩
  obtain ⟨k1, k2, k3, k4⟩ := boxed2 w [.slice s0 p.consts.length t0, .slice s1 p.vars.length t1, .slice s2 p.blocks.length t2, .slice s3 p.units.length t3] [.int .i64 o, .int .i64 a, .int .i64 b] 27 45 (W' := W0) (by rw [hW0]; exact Below.refl _ _)
  have HW0 := Lib.hid hW0
  clear hW0
  have K1 := Lib.hid k1
  have K2 := Lib.hid k2
  have z1 : w.heap.size < W0.heap.size := by omega
  clear k1 k2 h
  by_cases hu0 : u < 0
  · have hs := Lib.hid (oneP_u (p := p) (o := o) (a := a) (b := b) (show ¬ (0 ≤ u ∧ u < p.units.length) by omega))
    generalize p.units.length = n3 at *
    have q0 : (u < 0) = True := eq_true hu0
    clear hu0
    go_enter Tryd.func31, Tryd.ntmps31
    go_wp2_with fail
    go_ret
    exact ⟨by rw [hs.out]; rfl, by (repeat' (first | (with_reducible exact Below.refl _ _) | (with_reducible assumption) | (with_reducible refine below_drewN ?_ _) | (with_reducible refine Below.alloc ?_ ?_ _) | (with_reducible refine Below.drew ?_) | (with_reducible refine Below.setCell ?_ ?_ _) | go_size))⟩
  have q0 : (u < 0) = False := eq_false hu0
  by_cases hu1 : u < p.units.length
  case neg =>
    have hs := Lib.hid (oneP_u (p := p) (o := o) (a := a) (b := b) (show ¬ (0 ≤ u ∧ u < p.units.length) by omega))
    generalize p.units.length = n3 at *
    have q1 : ((n3 : Int) ≤ u) = True := eq_true (by omega)
    have q2 : (u < (n3 : Int)) = False := eq_false (by omega)
    clear hu0 hu1
    go_enter Tryd.func31, Tryd.ntmps31
    go_wp2_with fail
    go_ret
    exact ⟨by rw [hs.out]; rfl, by (repeat' (first | (with_reducible exact Below.refl _ _) | (with_reducible assumption) | (with_reducible refine below_drewN ?_ _) | (with_reducible refine Below.alloc ?_ ?_ _) | (with_reducible refine Below.drew ?_) | (with_reducible refine Below.setCell ?_ ?_ _) | go_size))⟩
  have HU := Lib.hid (show 0 ≤ u ∧ u < p.units.length by omega)
  have q1 : ((p.units.length : Int) ≤ u) = False := eq_false (by omega)
  have q2 : (u < (p.units.length : Int)) = True := eq_true (by omega)
  obtain ⟨i, rfl⟩ := Int.eq_ofNat_of_zero_le (show 0 ≤ u by omega)
  obtain ⟨x, hx⟩ := get_some (L := p.units) (n := i) (by omega)
  have hux : unAt p i = x := by unfold unAt; simp [List.getD, hx]
  have HE := Lib.hid (fun (hr : oRight o a b = false) => oneP_r HU.out hr)
  have HE2 := Lib.hid (fun (hr : oRight o a b = true) (ht : typedP o a b = false) => oneP_t HU.out hr ht)
  have HE3 := Lib.hid (fun (hr : oRight o a b = true) (ht : typedP o a b = true) (hn : thereP p x o a b = false) => oneP_n HU.out hr ht (by rw [hux]; exact hn))
  have HE4 := Lib.hid (fun (hr : oRight o a b = true) (ht : typedP o a b = true) (hn : thereP p x o a b = true) => oneP_ok HU.out hr ht (by rw [hux]; exact hn))
  cases hr : oRight o a b
  · have hs := Lib.hid (HE.out hr)
    rw [hr] at HR
    generalize p.units.length = n3 at *
    clear hr hu0 hu1
    go_enter Tryd.func31, Tryd.ntmps31
    go_wp2_with fail
    refine (HR.out _).mono ?_; rintro e w1 ⟨rfl, hb1⟩
    rw [← HW0.out] at hb1
    go_wp2_with fail
    go_ret
    exact ⟨by rw [hs.out]; rfl, k4.trans (hb1.mono k4.size)⟩
  have ho := (oRight_pos hr).1
  have ha := (oRight_pos hr).2.1
  have hbp := (oRight_pos hr).2.2.1
  have HE2 := Lib.hid (HE2.out hr)
  have HE3 := Lib.hid (HE3.out hr)
  have HE4 := Lib.hid (HE4.out hr)
  rw [hr] at HR
  have hxf := f4 x (List.mem_of_getElem? hx)
  clear hr HE hu0 hu1
  have HX := Lib.hid hx
  by_cases c9 : 8 ≤ o ∧ o ≤ 25
  · have hty := typedP_m (a := a) (b := b) c9
    have hA := fun W => ref07_Goes o a W
    have h4 : oA o = 4 := by
      obtain ⟨k, rfl⟩ := Int.eq_ofNat_of_zero_le (show 0 ≤ o by omega)
      exact (o_mid (k := k) (by omega)).1
    have r0 : (8 ≤ o) = True := eq_true c9.1
    have r1 : (o ≤ 25) = True := eq_true c9.2
    have v26 : (o == 26) = false := beq_eq_false_iff_ne.2 (by omega)
    have v1 : (o == 1) = false := beq_eq_false_iff_ne.2 (by omega)
    have v2 : (o == 2) = false := beq_eq_false_iff_ne.2 (by omega)
    have v3 : (o == 3) = false := beq_eq_false_iff_ne.2 (by omega)
    have v4 : (o == 4) = false := beq_eq_false_iff_ne.2 (by omega)
    have v5 : (o == 5) = false := beq_eq_false_iff_ne.2 (by omega)
    have v6 : (o == 6) = false := beq_eq_false_iff_ne.2 (by omega)
    have v7 : (o == 7) = false := beq_eq_false_iff_ne.2 (by omega)
    have v33 : (o == 33) = false := beq_eq_false_iff_ne.2 (by omega)
    have v35 : (o == 35) = false := beq_eq_false_iff_ne.2 (by omega)
    have v36 : (o == 36) = false := beq_eq_false_iff_ne.2 (by omega)
    have v37 : (o == 37) = false := beq_eq_false_iff_ne.2 (by omega)
    cases hg : aGoes o a
    · have hs := Lib.hid (HE2.out (hty.trans hg))
      rw [hg] at hA
      clear c9 h4 hty hg
      generalize p.consts.length = n0 at *
      generalize p.vars.length = n1 at *
      generalize p.blocks.length = n2 at *
      generalize p.units.length = n3 at *
      clear hx hux f4
      go_enter Tryd.func31, Tryd.ntmps31
      go_wp2_with fail
      refine (HR.out _).mono ?_; rintro e w1 ⟨rfl, hb1⟩
      rw [← HW0.out] at hb1
      have hb1w := k4.trans (hb1.mono k4.size)
      have y1 := Nat.lt_of_lt_of_le z1 hb1.size
      have y2 := Nat.lt_of_lt_of_le k3 hb1.size
      have e00 := (K1.out.keep z1 hb1) 0 _ rfl
      have e01 := (K1.out.keep z1 hb1) 1 _ rfl
      have e02 := (K1.out.keep z1 hb1) 2 _ rfl
      have e03 := (K1.out.keep z1 hb1) 3 _ rfl
      have e20 := (K2.out.keep k3 hb1) 0 _ rfl
      have e21 := (K2.out.keep k3 hb1) 1 _ rfl
      have e22 := (K2.out.keep k3 hb1) 2 _ rfl
      go_wp2_with fail
      refine (hA _).mono ?_; rintro e w' ⟨rfl, rfl⟩
      go_wp2_with fail
      go_ret
      exact ⟨by rw [hs.out]; rfl, hb1w⟩
    · have hs := Lib.hid (HE4.out (hty.trans hg) (thereP_n (by omega) (by omega) (by omega) (by omega) (by omega)))
      rw [hg] at hA
      clear c9 h4 hty hg
      generalize p.consts.length = n0 at *
      generalize p.vars.length = n1 at *
      generalize p.blocks.length = n2 at *
      generalize p.units.length = n3 at *
      clear hx hux f4
      go_enter Tryd.func31, Tryd.ntmps31
      go_wp2_with fail
      refine (HR.out _).mono ?_; rintro e w1 ⟨rfl, hb1⟩
      rw [← HW0.out] at hb1
      have hb1w := k4.trans (hb1.mono k4.size)
      have y1 := Nat.lt_of_lt_of_le z1 hb1.size
      have y2 := Nat.lt_of_lt_of_le k3 hb1.size
      have e00 := (K1.out.keep z1 hb1) 0 _ rfl
      have e01 := (K1.out.keep z1 hb1) 1 _ rfl
      have e02 := (K1.out.keep z1 hb1) 2 _ rfl
      have e03 := (K1.out.keep z1 hb1) 3 _ rfl
      have e20 := (K2.out.keep k3 hb1) 0 _ rfl
      have e21 := (K2.out.keep k3 hb1) 1 _ rfl
      have e22 := (K2.out.keep k3 hb1) 2 _ rfl
      go_wp2_with fail
      refine (hA _).mono ?_; rintro e w' ⟨rfl, rfl⟩
      go_wp2_with fail
      go_ret
      exact ⟨by rw [hs.out]; rfl, hb1w⟩
  by_cases c26 : o = 26
  · subst c26
    have hty : typedP 26 a b = (kRight a && kRight b) := rfl
    have hth : thereP p x 26 a b = true := thereP_n (by decide) (by decide) (by decide) (by decide) (by decide)
    by_cases g1 : a < 1
    · have r1 : (a < 1) = True := eq_true g1
      have hs := Lib.hid (HE2.out (by rw [hty, kRight_no (show ¬ (1 ≤ a ∧ a ≤ 6) by omega)]; rfl))
      clear c9 hty hth g1
      generalize p.consts.length = n0 at *
      generalize p.vars.length = n1 at *
      generalize p.blocks.length = n2 at *
      generalize p.units.length = n3 at *
      clear hx hux f4
      go_enter Tryd.func31, Tryd.ntmps31
      go_wp2_with fail
      refine (HR.out _).mono ?_; rintro e w1 ⟨rfl, hb1⟩
      rw [← HW0.out] at hb1
      have hb1w := k4.trans (hb1.mono k4.size)
      have y1 := Nat.lt_of_lt_of_le z1 hb1.size
      have y2 := Nat.lt_of_lt_of_le k3 hb1.size
      have e00 := (K1.out.keep z1 hb1) 0 _ rfl
      have e01 := (K1.out.keep z1 hb1) 1 _ rfl
      have e02 := (K1.out.keep z1 hb1) 2 _ rfl
      have e03 := (K1.out.keep z1 hb1) 3 _ rfl
      have e20 := (K2.out.keep k3 hb1) 0 _ rfl
      have e21 := (K2.out.keep k3 hb1) 1 _ rfl
      have e22 := (K2.out.keep k3 hb1) 2 _ rfl
      go_wp2_with fail
      go_ret
      exact ⟨by rw [hs.out]; rfl, hb1w⟩
    have r1 : (a < 1) = False := eq_false g1
    by_cases g2 : 6 < a
    · have r2 : (6 < a) = True := eq_true g2
      have hs := Lib.hid (HE2.out (by rw [hty, kRight_no (show ¬ (1 ≤ a ∧ a ≤ 6) by omega)]; rfl))
      clear c9 hty hth g1 g2
      generalize p.consts.length = n0 at *
      generalize p.vars.length = n1 at *
      generalize p.blocks.length = n2 at *
      generalize p.units.length = n3 at *
      clear hx hux f4
      go_enter Tryd.func31, Tryd.ntmps31
      go_wp2_with fail
      refine (HR.out _).mono ?_; rintro e w1 ⟨rfl, hb1⟩
      rw [← HW0.out] at hb1
      have hb1w := k4.trans (hb1.mono k4.size)
      have y1 := Nat.lt_of_lt_of_le z1 hb1.size
      have y2 := Nat.lt_of_lt_of_le k3 hb1.size
      have e00 := (K1.out.keep z1 hb1) 0 _ rfl
      have e01 := (K1.out.keep z1 hb1) 1 _ rfl
      have e02 := (K1.out.keep z1 hb1) 2 _ rfl
      have e03 := (K1.out.keep z1 hb1) 3 _ rfl
      have e20 := (K2.out.keep k3 hb1) 0 _ rfl
      have e21 := (K2.out.keep k3 hb1) 1 _ rfl
      have e22 := (K2.out.keep k3 hb1) 2 _ rfl
      go_wp2_with fail
      go_ret
      exact ⟨by rw [hs.out]; rfl, hb1w⟩
    have r2 : (6 < a) = False := eq_false g2
    by_cases g3 : b < 1
    · have r3 : (b < 1) = True := eq_true g3
      have hs := Lib.hid (HE2.out (by rw [hty, kRight_no (show ¬ (1 ≤ b ∧ b ≤ 6) by omega), Bool.and_false]))
      clear c9 hty hth g1 g2 g3
      generalize p.consts.length = n0 at *
      generalize p.vars.length = n1 at *
      generalize p.blocks.length = n2 at *
      generalize p.units.length = n3 at *
      clear hx hux f4
      go_enter Tryd.func31, Tryd.ntmps31
      go_wp2_with fail
      refine (HR.out _).mono ?_; rintro e w1 ⟨rfl, hb1⟩
      rw [← HW0.out] at hb1
      have hb1w := k4.trans (hb1.mono k4.size)
      have y1 := Nat.lt_of_lt_of_le z1 hb1.size
      have y2 := Nat.lt_of_lt_of_le k3 hb1.size
      have e00 := (K1.out.keep z1 hb1) 0 _ rfl
      have e01 := (K1.out.keep z1 hb1) 1 _ rfl
      have e02 := (K1.out.keep z1 hb1) 2 _ rfl
      have e03 := (K1.out.keep z1 hb1) 3 _ rfl
      have e20 := (K2.out.keep k3 hb1) 0 _ rfl
      have e21 := (K2.out.keep k3 hb1) 1 _ rfl
      have e22 := (K2.out.keep k3 hb1) 2 _ rfl
      go_wp2_with fail
      go_ret
      exact ⟨by rw [hs.out]; rfl, hb1w⟩
    have r3 : (b < 1) = False := eq_false g3
    by_cases g4 : 6 < b
    · have r4 : (6 < b) = True := eq_true g4
      have hs := Lib.hid (HE2.out (by rw [hty, kRight_no (show ¬ (1 ≤ b ∧ b ≤ 6) by omega), Bool.and_false]))
      clear c9 hty hth g1 g2 g3 g4
      generalize p.consts.length = n0 at *
      generalize p.vars.length = n1 at *
      generalize p.blocks.length = n2 at *
      generalize p.units.length = n3 at *
      clear hx hux f4
      go_enter Tryd.func31, Tryd.ntmps31
      go_wp2_with fail
      refine (HR.out _).mono ?_; rintro e w1 ⟨rfl, hb1⟩
      rw [← HW0.out] at hb1
      have hb1w := k4.trans (hb1.mono k4.size)
      have y1 := Nat.lt_of_lt_of_le z1 hb1.size
      have y2 := Nat.lt_of_lt_of_le k3 hb1.size
      have e00 := (K1.out.keep z1 hb1) 0 _ rfl
      have e01 := (K1.out.keep z1 hb1) 1 _ rfl
      have e02 := (K1.out.keep z1 hb1) 2 _ rfl
      have e03 := (K1.out.keep z1 hb1) 3 _ rfl
      have e20 := (K2.out.keep k3 hb1) 0 _ rfl
      have e21 := (K2.out.keep k3 hb1) 1 _ rfl
      have e22 := (K2.out.keep k3 hb1) 2 _ rfl
      go_wp2_with fail
      go_ret
      exact ⟨by rw [hs.out]; rfl, hb1w⟩
    have r4 : (6 < b) = False := eq_false g4
    have hs := Lib.hid (HE4.out (by rw [hty, kRight_yes (show 1 ≤ a ∧ a ≤ 6 by omega), kRight_yes (show 1 ≤ b ∧ b ≤ 6 by omega)]; rfl) hth)
    clear c9 hty hth g1 g2 g3 g4
    generalize p.consts.length = n0 at *
    generalize p.vars.length = n1 at *
    generalize p.blocks.length = n2 at *
    generalize p.units.length = n3 at *
    clear hx hux f4
    go_enter Tryd.func31, Tryd.ntmps31
    go_wp2_with fail
    refine (HR.out _).mono ?_; rintro e w1 ⟨rfl, hb1⟩
    rw [← HW0.out] at hb1
    have hb1w := k4.trans (hb1.mono k4.size)
    have y1 := Nat.lt_of_lt_of_le z1 hb1.size
    have y2 := Nat.lt_of_lt_of_le k3 hb1.size
    have e00 := (K1.out.keep z1 hb1) 0 _ rfl
    have e01 := (K1.out.keep z1 hb1) 1 _ rfl
    have e02 := (K1.out.keep z1 hb1) 2 _ rfl
    have e03 := (K1.out.keep z1 hb1) 3 _ rfl
    have e20 := (K2.out.keep k3 hb1) 0 _ rfl
    have e21 := (K2.out.keep k3 hb1) 1 _ rfl
    have e22 := (K2.out.keep k3 hb1) 2 _ rfl
    go_wp2_with fail
    go_ret
    exact ⟨by rw [hs.out]; rfl, hb1w⟩
  by_cases cn : o = 0 ∨ o = 27 ∨ o = 28 ∨ o = 29 ∨ o = 30 ∨ o = 31 ∨ o = 32 ∨ o = 34
  · rcases cn with rfl | rfl | rfl | rfl | rfl | rfl | rfl | rfl
    all_goals
      have hs := Lib.hid (HE4.out (typedP_n (by decide) (by decide)) (thereP_n (by decide) (by decide) (by decide) (by decide) (by decide)))
      clear c9 c26
      generalize p.consts.length = n0 at *
      generalize p.vars.length = n1 at *
      generalize p.blocks.length = n2 at *
      generalize p.units.length = n3 at *
      clear hx hux f4
      go_enter Tryd.func31, Tryd.ntmps31
      go_wp2_with fail
      refine (HR.out _).mono ?_; rintro e w1 ⟨rfl, hb1⟩
      rw [← HW0.out] at hb1
      have hb1w := k4.trans (hb1.mono k4.size)
      have y1 := Nat.lt_of_lt_of_le z1 hb1.size
      have y2 := Nat.lt_of_lt_of_le k3 hb1.size
      have e00 := (K1.out.keep z1 hb1) 0 _ rfl
      have e01 := (K1.out.keep z1 hb1) 1 _ rfl
      have e02 := (K1.out.keep z1 hb1) 2 _ rfl
      have e03 := (K1.out.keep z1 hb1) 3 _ rfl
      have e20 := (K2.out.keep k3 hb1) 0 _ rfl
      have e21 := (K2.out.keep k3 hb1) 1 _ rfl
      have e22 := (K2.out.keep k3 hb1) 2 _ rfl
      go_wp2_with fail
      go_ret
      exact ⟨by rw [hs.out]; rfl, hb1w⟩
  by_cases d1 : o = 1
  · subst d1
    have hth := thereP_1 (p := p) (x := x) (a := a) (b := b) (show oA 1 = 1 by decide)
    by_cases g : a < p.consts.length
    all_goals
      have hs := Lib.hid (by first | exact HE4.out (typedP_n (by decide) (by decide)) (hth.trans (decide_eq_true g)) | exact HE3.out (typedP_n (by decide) (by decide)) (hth.trans (decide_eq_false g)))
      first | have qg := eq_false g | have qg := eq_true g
      clear c9 c26 cn hth g
      generalize p.consts.length = n0 at *
      generalize p.vars.length = n1 at *
      generalize p.blocks.length = n2 at *
      generalize p.units.length = n3 at *
      clear hx hux f4
      go_enter Tryd.func31, Tryd.ntmps31
      go_wp2_with fail
      refine (HR.out _).mono ?_; rintro e w1 ⟨rfl, hb1⟩
      rw [← HW0.out] at hb1
      have hb1w := k4.trans (hb1.mono k4.size)
      have y1 := Nat.lt_of_lt_of_le z1 hb1.size
      have y2 := Nat.lt_of_lt_of_le k3 hb1.size
      have e00 := (K1.out.keep z1 hb1) 0 _ rfl
      have e01 := (K1.out.keep z1 hb1) 1 _ rfl
      have e02 := (K1.out.keep z1 hb1) 2 _ rfl
      have e03 := (K1.out.keep z1 hb1) 3 _ rfl
      have e20 := (K2.out.keep k3 hb1) 0 _ rfl
      have e21 := (K2.out.keep k3 hb1) 1 _ rfl
      have e22 := (K2.out.keep k3 hb1) 2 _ rfl
      go_wp2_with fail
      go_ret
      exact ⟨by rw [hs.out]; rfl, hb1w⟩
  by_cases d33 : o = 33
  · subst d33
    have hth := thereP_7 (p := p) (x := x) (a := a) (b := b) (show oA 33 = 7 by decide)
    by_cases g1 : 0 < a
    · have r1 : (0 < a) = True := eq_true g1
      by_cases g : a < p.units.length
      all_goals
        have hs := Lib.hid (by first | exact HE4.out (typedP_n (by decide) (by decide)) (hth.trans (decide_eq_true ⟨g1, g⟩)) | exact HE3.out (typedP_n (by decide) (by decide)) (hth.trans (decide_eq_false (fun q => g q.2))))
        first | have qg := eq_false g | have qg := eq_true g
        clear c9 c26 cn hth g g1 d1
        generalize p.consts.length = n0 at *
        generalize p.vars.length = n1 at *
        generalize p.blocks.length = n2 at *
        generalize p.units.length = n3 at *
        clear hx hux f4
        go_enter Tryd.func31, Tryd.ntmps31
        go_wp2_with fail
        refine (HR.out _).mono ?_; rintro e w1 ⟨rfl, hb1⟩
        rw [← HW0.out] at hb1
        have hb1w := k4.trans (hb1.mono k4.size)
        have y1 := Nat.lt_of_lt_of_le z1 hb1.size
        have y2 := Nat.lt_of_lt_of_le k3 hb1.size
        have e00 := (K1.out.keep z1 hb1) 0 _ rfl
        have e01 := (K1.out.keep z1 hb1) 1 _ rfl
        have e02 := (K1.out.keep z1 hb1) 2 _ rfl
        have e03 := (K1.out.keep z1 hb1) 3 _ rfl
        have e20 := (K2.out.keep k3 hb1) 0 _ rfl
        have e21 := (K2.out.keep k3 hb1) 1 _ rfl
        have e22 := (K2.out.keep k3 hb1) 2 _ rfl
        go_wp2_with fail
        go_ret
        exact ⟨by rw [hs.out]; rfl, hb1w⟩
    · have r1 : (0 < a) = False := eq_false g1
      have hs := Lib.hid (HE3.out (typedP_n (by decide) (by decide)) (hth.trans (decide_eq_false (fun q => g1 q.1))))
      clear c9 c26 cn hth g1 d1
      generalize p.consts.length = n0 at *
      generalize p.vars.length = n1 at *
      generalize p.blocks.length = n2 at *
      generalize p.units.length = n3 at *
      clear hx hux f4
      go_enter Tryd.func31, Tryd.ntmps31
      go_wp2_with fail
      refine (HR.out _).mono ?_; rintro e w1 ⟨rfl, hb1⟩
      rw [← HW0.out] at hb1
      have hb1w := k4.trans (hb1.mono k4.size)
      have y1 := Nat.lt_of_lt_of_le z1 hb1.size
      have y2 := Nat.lt_of_lt_of_le k3 hb1.size
      have e00 := (K1.out.keep z1 hb1) 0 _ rfl
      have e01 := (K1.out.keep z1 hb1) 1 _ rfl
      have e02 := (K1.out.keep z1 hb1) 2 _ rfl
      have e03 := (K1.out.keep z1 hb1) 3 _ rfl
      have e20 := (K2.out.keep k3 hb1) 0 _ rfl
      have e21 := (K2.out.keep k3 hb1) 1 _ rfl
      have e22 := (K2.out.keep k3 hb1) 2 _ rfl
      go_wp2_with fail
      go_ret
      exact ⟨by rw [hs.out]; rfl, hb1w⟩
  by_cases dv : o = 2 ∨ o = 3 ∨ o = 6 ∨ o = 7
  · have hth : thereP p x o a b = varP p o a := thereP_2 (by rcases dv with rfl | rfl | rfl | rfl <;> decide)
    have hty : typedP o a b = true := by rcases dv with rfl | rfl | rfl | rfl <;> exact typedP_n (by decide) (by decide)
    have hvp : varP p o a = decide (a < p.vars.length ∧ ((2 ≤ nAt p a) ↔ (o = 6 ∨ o = 7))) := rfl
    by_cases g1 : a < p.vars.length
    · obtain ⟨k, rfl⟩ := Int.eq_ofNat_of_zero_le ha
      obtain ⟨y, hy⟩ := get_some (L := p.vars) (n := k) (by omega)
      have hn : nAt p k = y.n := by unfold nAt; simp [List.getD, hy]
      rw [hn] at hvp
      obtain ⟨bb, off, rfl, hbw, hc⟩ := var_at hv (k := k) (lt_of_get hy)
      obtain ⟨_, _, cc, _, _, _⟩ := hc k y hy
      have r2 : ((k : Int) < (p.vars.length : Int)) = True := eq_true (by omega)
      generalize y.n = n at *
      by_cases g2 : 2 ≤ n
      · have r3 : (2 ≤ n) = True := eq_true g2
        have r4 : (n < 2) = False := eq_false (by omega)
        rcases dv with rfl | rfl | rfl | rfl
        all_goals
          have hs := Lib.hid (by first | exact HE4.out hty (hth.trans (hvp.trans (decide_eq_true ⟨g1, iff_of_true g2 (by omega)⟩))) | exact HE3.out hty (hth.trans (hvp.trans (decide_eq_false (fun q => absurd (q.2.1 g2) (by omega))))))
          clear c9 c26 cn d1 d33 hth hty hvp hn hc hy g1 g2 hv
          generalize p.consts.length = n0 at *
          generalize p.vars.length = n1 at *
          generalize p.blocks.length = n2 at *
          generalize p.units.length = n3 at *
          clear hx hux f4
          go_enter Tryd.func31, Tryd.ntmps31
          go_wp2_with fail
          refine (HR.out _).mono ?_; rintro e w1 ⟨rfl, hb1⟩
          rw [← HW0.out] at hb1
          have hb1w := k4.trans (hb1.mono k4.size)
          have y1 := Nat.lt_of_lt_of_le z1 hb1.size
          have y2 := Nat.lt_of_lt_of_le k3 hb1.size
          have e00 := (K1.out.keep z1 hb1) 0 _ rfl
          have e01 := (K1.out.keep z1 hb1) 1 _ rfl
          have e02 := (K1.out.keep z1 hb1) 2 _ rfl
          have e03 := (K1.out.keep z1 hb1) 3 _ rfl
          have e20 := (K2.out.keep k3 hb1) 0 _ rfl
          have e21 := (K2.out.keep k3 hb1) 1 _ rfl
          have e22 := (K2.out.keep k3 hb1) 2 _ rfl
          have cc1 := (hb1w.cell (p := ⟨bb, off + k * 5 + 2, none⟩) hbw).trans cc
          go_wp2_with fail
          go_ret
          exact ⟨by rw [hs.out]; rfl, hb1w⟩
      · have r3 : (2 ≤ n) = False := eq_false g2
        have r4 : (n < 2) = True := eq_true (by omega)
        rcases dv with rfl | rfl | rfl | rfl
        all_goals
          have hs := Lib.hid (by first | exact HE4.out hty (hth.trans (hvp.trans (decide_eq_true ⟨g1, iff_of_false g2 (by omega)⟩))) | exact HE3.out hty (hth.trans (hvp.trans (decide_eq_false (fun q => absurd (q.2.2 (by omega)) g2)))))
          clear c9 c26 cn d1 d33 hth hty hvp hn hc hy g1 g2 hv
          generalize p.consts.length = n0 at *
          generalize p.vars.length = n1 at *
          generalize p.blocks.length = n2 at *
          generalize p.units.length = n3 at *
          clear hx hux f4
          go_enter Tryd.func31, Tryd.ntmps31
          go_wp2_with fail
          refine (HR.out _).mono ?_; rintro e w1 ⟨rfl, hb1⟩
          rw [← HW0.out] at hb1
          have hb1w := k4.trans (hb1.mono k4.size)
          have y1 := Nat.lt_of_lt_of_le z1 hb1.size
          have y2 := Nat.lt_of_lt_of_le k3 hb1.size
          have e00 := (K1.out.keep z1 hb1) 0 _ rfl
          have e01 := (K1.out.keep z1 hb1) 1 _ rfl
          have e02 := (K1.out.keep z1 hb1) 2 _ rfl
          have e03 := (K1.out.keep z1 hb1) 3 _ rfl
          have e20 := (K2.out.keep k3 hb1) 0 _ rfl
          have e21 := (K2.out.keep k3 hb1) 1 _ rfl
          have e22 := (K2.out.keep k3 hb1) 2 _ rfl
          have cc1 := (hb1w.cell (p := ⟨bb, off + k * 5 + 2, none⟩) hbw).trans cc
          go_wp2_with fail
          go_ret
          exact ⟨by rw [hs.out]; rfl, hb1w⟩
    · have r2 : (a < (p.vars.length : Int)) = False := eq_false g1
      rcases dv with rfl | rfl | rfl | rfl
      all_goals
        have hs := Lib.hid (HE3.out hty (hth.trans (hvp.trans (decide_eq_false (fun q => g1 q.1)))))
        clear c9 c26 cn d1 d33 hth hty hvp g1 hv
        generalize p.consts.length = n0 at *
        generalize p.vars.length = n1 at *
        generalize p.blocks.length = n2 at *
        generalize p.units.length = n3 at *
        clear hx hux f4
        go_enter Tryd.func31, Tryd.ntmps31
        go_wp2_with fail
        refine (HR.out _).mono ?_; rintro e w1 ⟨rfl, hb1⟩
        rw [← HW0.out] at hb1
        have hb1w := k4.trans (hb1.mono k4.size)
        have y1 := Nat.lt_of_lt_of_le z1 hb1.size
        have y2 := Nat.lt_of_lt_of_le k3 hb1.size
        have e00 := (K1.out.keep z1 hb1) 0 _ rfl
        have e01 := (K1.out.keep z1 hb1) 1 _ rfl
        have e02 := (K1.out.keep z1 hb1) 2 _ rfl
        have e03 := (K1.out.keep z1 hb1) 3 _ rfl
        have e20 := (K2.out.keep k3 hb1) 0 _ rfl
        have e21 := (K2.out.keep k3 hb1) 1 _ rfl
        have e22 := (K2.out.keep k3 hb1) 2 _ rfl
        go_wp2_with fail
        go_ret
        exact ⟨by rw [hs.out]; rfl, hb1w⟩
  by_cases ds : o = 4 ∨ o = 5
  · have hth : thereP p x o a b = decide (a < slotsN x) := thereP_3 (by rcases ds with rfl | rfl <;> decide)
    have hty : typedP o a b = true := by rcases ds with rfl | rfl <;> exact typedP_n (by decide) (by decide)
    obtain ⟨b3, off3, rfl, hbw3, hc3⟩ := unit_at hun (k := i) (lt_of_get HX.out)
    obtain ⟨u1, u3, u4, c0, c1, c2, c3, c4, hU⟩ := hc3 i x HX.out
    have HS := Lib.hid (fun W (hb : Below w.heap.size w W) => ref15_Slots u1 u3 u4 x W (hU.below hb) hxf)
    have hsl := slotsL_len x
    generalize slotsN x = sn at *
    have hslN := Lib.hid hsl
    have hsnb : sn ≤ 2000 := by rw [← hsl]; obtain ⟨_, j1, j2, _⟩ := fewU_is hxf; unfold slotsL; simp; split <;> simp <;> omega
    clear hsl hU hc3 hun
    rcases ds with rfl | rfl
    all_goals
      by_cases g : a < sn
      all_goals
        have hs := Lib.hid (by first | exact HE4.out hty (hth.trans (decide_eq_true g)) | exact HE3.out hty (hth.trans (decide_eq_false g)))
        first | have qg := eq_false g | have qg := eq_true g
        clear c9 c26 cn d1 d33 dv hth hty g
        generalize p.consts.length = n0 at *
        generalize p.vars.length = n1 at *
        generalize p.blocks.length = n2 at *
        generalize p.units.length = n3 at *
        clear hx hux f4
        go_enter Tryd.func31, Tryd.ntmps31
        go_wp2_with fail
        refine (HR.out _).mono ?_; rintro e w1 ⟨rfl, hb1⟩
        rw [← HW0.out] at hb1
        have hb1w := k4.trans (hb1.mono k4.size)
        have y1 := Nat.lt_of_lt_of_le z1 hb1.size
        have y2 := Nat.lt_of_lt_of_le k3 hb1.size
        have e00 := (K1.out.keep z1 hb1) 0 _ rfl
        have e01 := (K1.out.keep z1 hb1) 1 _ rfl
        have e02 := (K1.out.keep z1 hb1) 2 _ rfl
        have e03 := (K1.out.keep z1 hb1) 3 _ rfl
        have e20 := (K2.out.keep k3 hb1) 0 _ rfl
        have e21 := (K2.out.keep k3 hb1) 1 _ rfl
        have e22 := (K2.out.keep k3 hb1) 2 _ rfl
        have z3 : b3 < w1.heap.size := Nat.lt_of_lt_of_le hbw3 hb1w.size
        have C0 := (hb1w.cell (p := ⟨b3, off3 + i * 5, none⟩) hbw3).trans c0
        have C1 := (hb1w.cell (p := ⟨b3, off3 + i * 5 + 1, none⟩) hbw3).trans c1
        have C2 := (hb1w.cell (p := ⟨b3, off3 + i * 5 + 2, none⟩) hbw3).trans c2
        have C3 := (hb1w.cell (p := ⟨b3, off3 + i * 5 + 3, none⟩) hbw3).trans c3
        have C4 := (hb1w.cell (p := ⟨b3, off3 + i * 5 + 4, none⟩) hbw3).trans c4
        go_wp2_with fail
        refine wp_region_held_drew (S := (fun w' => Below w1.heap.size w1 w')) (by kernel_rfl) ?_ (fun hHeld => ?_)
        · (try dsimp only); first | assumption | exact Below.alloc hHeld hHeld.size _ | exact (Below.refl _ _).drew | exact Below.drew (Below.refl _ _) | exact Below_drewN _ _ _ | exact Below.refl _ _ | (trace_state; fail)
        refine wpAnyH_take (i := 0) (oi := { dst := some 96, op := Op.fieldAddr 45 (Operand.tmp 5) 1, type := 0, pos := _, after := #[], guard := none }) (v := ?_) rfl (by kernel_rfl) (by kernel_rfl) (by kernel_rfl) (fun _ _ _ h => h) (Or.inl ⟨by rfl, ?_⟩) (by assumption) ?_
        rotate_left
        · intro wt hSw; (try dsimp only at hSw); have e03 := cellB hSw e03 y1; have e21 := cellB hSw e21 y2; have C0 := cellB hSw C0 z3; have C1 := cellB hSw C1 z3; have C2 := cellB hSw C2 z3; have C3 := cellB hSw C3 z3; have C4 := cellB hSw C4 z3; first | (go_simp; done) | (go_simp; with_reducible rfl) | (trace_state; fail)
        try simp only [Act.put, List.setIfInBounds_toArray, List.set_cons_zero, List.set_cons_succ]
        refine wpAnyH_take (i := 1) (oi := { dst := some 97, op := Op.load 3 (Operand.tmp 96), type := 3, pos := _, after := #[{ on := 0, ground := Ground.data }], guard := none }) (v := ?_) rfl (by kernel_rfl) (by kernel_rfl) (by kernel_rfl) (fun _ _ _ h => h) (Or.inl ⟨by rfl, ?_⟩) (by assumption) ?_
        rotate_left
        · intro wt hSw; (try dsimp only at hSw); have e03 := cellB hSw e03 y1; have e21 := cellB hSw e21 y2; have C0 := cellB hSw C0 z3; have C1 := cellB hSw C1 z3; have C2 := cellB hSw C2 z3; have C3 := cellB hSw C3 z3; have C4 := cellB hSw C4 z3; first | (go_simp; done) | (go_simp; with_reducible rfl) | (trace_state; fail)
        try simp only [Act.put, List.setIfInBounds_toArray, List.set_cons_zero, List.set_cons_succ]
        refine wpAnyH_take (i := 2) (oi := { dst := some 98, op := Op.fieldAddr 27 (Operand.tmp 3) 3, type := 0, pos := _, after := #[], guard := none }) (v := ?_) rfl (by kernel_rfl) (by kernel_rfl) (by kernel_rfl) (fun _ _ _ h => h) (Or.inl ⟨by rfl, ?_⟩) (by assumption) ?_
        rotate_left
        · intro wt hSw; (try dsimp only at hSw); have e03 := cellB hSw e03 y1; have e21 := cellB hSw e21 y2; have C0 := cellB hSw C0 z3; have C1 := cellB hSw C1 z3; have C2 := cellB hSw C2 z3; have C3 := cellB hSw C3 z3; have C4 := cellB hSw C4 z3; first | (go_simp; done) | (go_simp; with_reducible rfl) | (trace_state; fail)
        try simp only [Act.put, List.setIfInBounds_toArray, List.set_cons_zero, List.set_cons_succ]
        refine wpAnyH_take (i := 3) (oi := { dst := some 99, op := Op.load 25 (Operand.tmp 98), type := 25, pos := _, after := #[{ on := 2, ground := Ground.data }], guard := none }) (v := ?_) rfl (by kernel_rfl) (by kernel_rfl) (by kernel_rfl) (fun _ _ _ h => h) (Or.inl ⟨by rfl, ?_⟩) (by assumption) ?_
        rotate_left
        · intro wt hSw; (try dsimp only at hSw); have e03 := cellB hSw e03 y1; have e21 := cellB hSw e21 y2; have C0 := cellB hSw C0 z3; have C1 := cellB hSw C1 z3; have C2 := cellB hSw C2 z3; have C3 := cellB hSw C3 z3; have C4 := cellB hSw C4 z3; first | (go_simp; done) | (go_simp; with_reducible rfl) | (trace_state; fail)
        try simp only [Act.put, List.setIfInBounds_toArray, List.set_cons_zero, List.set_cons_succ]
        refine wpAnyH_take (i := 4) (oi := { dst := some 100, op := Op.move (Operand.tmp 1), type := 3, pos := _, after := #[], guard := none }) (v := ?_) rfl (by kernel_rfl) (by kernel_rfl) (by kernel_rfl) (fun _ _ _ h => h) (Or.inl ⟨by rfl, ?_⟩) (by assumption) ?_
        rotate_left
        · intro wt hSw; (try dsimp only at hSw); have e03 := cellB hSw e03 y1; have e21 := cellB hSw e21 y2; have C0 := cellB hSw C0 z3; have C1 := cellB hSw C1 z3; have C2 := cellB hSw C2 z3; have C3 := cellB hSw C3 z3; have C4 := cellB hSw C4 z3; first | (go_simp; done) | (go_simp; with_reducible rfl) | (trace_state; fail)
        try simp only [Act.put, List.setIfInBounds_toArray, List.set_cons_zero, List.set_cons_succ]
        refine wpAnyH_take (i := 5) (oi := { dst := some 101, op := Op.indexAddr 25 (Operand.tmp 99) (Operand.tmp 100), type := 0, pos := _, after := #[{ on := 3, ground := Ground.data }, { on := 4, ground := Ground.data }], guard := none }) (v := ?_) rfl (by kernel_rfl) (by kernel_rfl) (by kernel_rfl) (fun _ _ _ h => h) (Or.inl ⟨by rfl, ?_⟩) (by assumption) ?_
        rotate_left
        · intro wt hSw; (try dsimp only at hSw); have e03 := cellB hSw e03 y1; have e21 := cellB hSw e21 y2; have C0 := cellB hSw C0 z3; have C1 := cellB hSw C1 z3; have C2 := cellB hSw C2 z3; have C3 := cellB hSw C3 z3; have C4 := cellB hSw C4 z3; first | (go_simp; done) | (go_simp; with_reducible rfl) | (trace_state; fail)
        try simp only [Act.put, List.setIfInBounds_toArray, List.set_cons_zero, List.set_cons_succ]
        refine wpAnyH_take (i := 6) (oi := { dst := some 102, op := Op.load 41 (Operand.tmp 101), type := 41, pos := _, after := #[{ on := 5, ground := Ground.data }], guard := none }) (v := ?_) rfl (by kernel_rfl) (by kernel_rfl) (by kernel_rfl) (fun _ _ _ h => h) (Or.inl ⟨by rfl, ?_⟩) (by assumption) ?_
        rotate_left
        · intro wt hSw; (try dsimp only at hSw); have e03 := cellB hSw e03 y1; have e21 := cellB hSw e21 y2; have C0 := cellB hSw C0 z3; have C1 := cellB hSw C1 z3; have C2 := cellB hSw C2 z3; have C3 := cellB hSw C3 z3; have C4 := cellB hSw C4 z3; first | (go_simp; done) | (go_simp; with_reducible rfl) | (trace_state; fail)
        try simp only [Act.put, List.setIfInBounds_toArray, List.set_cons_zero, List.set_cons_succ]
        refine wpAnyH_ready (rs := [7]) (by kernel_rfl) (by simp) ?_
        refine AllReadyH.cons (o := { dst := some 103, op := Op.call { callee := Callee.value (Operand.func 50), args := #[Operand.tmp 102], argTypes := #[41] }, type := 36, pos := _, after := #[{ on := 6, ground := Ground.data }], guard := none }) rfl (fun K hK => ?_) AllReadyH.nil
        go_simp
        refine (HS.out _ (hb1w.trans (hHeld.mono hb1w.size))).mono ?_; rintro e w2 ⟨vs, rfl, hvs, hb2⟩; obtain ⟨ss, ts, rfl⟩ := row_get hvs; rw [hslN.out]; have hHeld := hHeld.trans (hb2.mono hHeld.size); clear hb2 hvs
        go_wp2_with fail
        refine hK.out _ _ ?_ (fun hHeld => ?_)
        · (try dsimp only); first | assumption | exact Below.alloc hHeld hHeld.size _ | exact (Below.refl _ _).drew | exact Below.drew (Below.refl _ _) | exact Below_drewN _ _ _ | exact Below.refl _ _ | (trace_state; fail)
        clear hK K
        try simp only [Act.put, List.setIfInBounds_toArray, List.set_cons_zero, List.set_cons_succ]
        refine wpAnyH_take (i := 8) (oi := { dst := some 104, op := Op.call { callee := Callee.builtin Builtin.len, args := #[Operand.tmp 103], argTypes := #[36] }, type := 3, pos := _, after := #[{ on := 7, ground := Ground.data }], guard := none }) (v := ?_) rfl (by kernel_rfl) (by kernel_rfl) (by kernel_rfl) (fun _ _ _ h => h) (Or.inl ⟨by rfl, ?_⟩) (by assumption) ?_
        rotate_left
        · intro wt hSw; (try dsimp only at hSw); have e03 := cellB hSw e03 y1; have e21 := cellB hSw e21 y2; have C0 := cellB hSw C0 z3; have C1 := cellB hSw C1 z3; have C2 := cellB hSw C2 z3; have C3 := cellB hSw C3 z3; have C4 := cellB hSw C4 z3; first | (go_simp; done) | (go_simp; with_reducible rfl) | (trace_state; fail)
        try simp only [Act.put, List.setIfInBounds_toArray, List.set_cons_zero, List.set_cons_succ]
        refine wpAnyH_take (i := 9) (oi := { dst := some 105, op := Op.binOp BinOp.lss 3 (Operand.tmp 97) (Operand.tmp 104) 3, type := 4, pos := _, after := #[{ on := 1, ground := Ground.data }, { on := 8, ground := Ground.data }], guard := none }) (v := ?_) rfl (by kernel_rfl) (by kernel_rfl) (by kernel_rfl) (fun _ _ _ h => h) (Or.inl ⟨by rfl, ?_⟩) (by assumption) ?_
        rotate_left
        · intro wt hSw; (try dsimp only at hSw); have e03 := cellB hSw e03 y1; have e21 := cellB hSw e21 y2; have C0 := cellB hSw C0 z3; have C1 := cellB hSw C1 z3; have C2 := cellB hSw C2 z3; have C3 := cellB hSw C3 z3; have C4 := cellB hSw C4 z3; first | (go_simp; done) | (go_simp; with_reducible rfl) | (trace_state; fail)
        try simp only [Act.put, List.setIfInBounds_toArray, List.set_cons_zero, List.set_cons_succ]
        refine wpAnyH_take (i := 10) (oi := { dst := some 7, op := Op.assign (Operand.tmp 105), type := 4, pos := _, after := #[{ on := 9, ground := Ground.data }, { on := 7, ground := Ground.chain }, { on := 0, ground := Ground.phase }, { on := 1, ground := Ground.phase }, { on := 2, ground := Ground.phase }, { on := 3, ground := Ground.phase }, { on := 4, ground := Ground.phase }, { on := 5, ground := Ground.phase }, { on := 6, ground := Ground.phase }, { on := 7, ground := Ground.phase }, { on := 8, ground := Ground.phase }, { on := 9, ground := Ground.phase }], guard := none }) (v := ?_) rfl (by kernel_rfl) (by kernel_rfl) (by kernel_rfl) (fun _ _ _ h => h) (Or.inl ⟨by rfl, ?_⟩) (by assumption) ?_
        rotate_left
        · intro wt hSw; (try dsimp only at hSw); have e03 := cellB hSw e03 y1; have e21 := cellB hSw e21 y2; have C0 := cellB hSw C0 z3; have C1 := cellB hSw C1 z3; have C2 := cellB hSw C2 z3; have C3 := cellB hSw C3 z3; have C4 := cellB hSw C4 z3; first | (go_simp; done) | (go_simp; with_reducible rfl) | (trace_state; fail)
        try simp only [Act.put, List.setIfInBounds_toArray, List.set_cons_zero, List.set_cons_succ]
        refine wpAnyH_done (by kernel_rfl) ?_ _
        go_wp2_with fail
        go_ret
        exact ⟨by rw [hs.out]; rfl, hb1w.trans (hHeld.mono hb1w.size)⟩
  have db : o = 35 ∨ o = 36 ∨ o = 37 := by omega
  have hth : thereP p x o a b = decide (a < p.blocks.length ∧ (oB o = 9 → b < reachN o (kindAt p a))) := thereP_8 (by rcases db with rfl | rfl | rfl <;> decide)
  have hty : typedP o a b = true := by rcases db with rfl | rfl | rfl <;> exact typedP_n (by decide) (by decide)
  by_cases g1 : a < p.blocks.length
  case neg =>
    have r2 : (a < (p.blocks.length : Int)) = False := eq_false g1
    rcases db with rfl | rfl | rfl
    all_goals
      have hs := Lib.hid (HE3.out hty (hth.trans (decide_eq_false (fun q => g1 q.1))))
      clear c9 c26 cn d1 d33 dv ds hth hty g1
      generalize p.consts.length = n0 at *
      generalize p.vars.length = n1 at *
      generalize p.blocks.length = n2 at *
      generalize p.units.length = n3 at *
      clear hx hux f4
      go_enter Tryd.func31, Tryd.ntmps31
      go_wp2_with fail
      refine (HR.out _).mono ?_; rintro e w1 ⟨rfl, hb1⟩
      rw [← HW0.out] at hb1
      have hb1w := k4.trans (hb1.mono k4.size)
      have y1 := Nat.lt_of_lt_of_le z1 hb1.size
      have y2 := Nat.lt_of_lt_of_le k3 hb1.size
      have e00 := (K1.out.keep z1 hb1) 0 _ rfl
      have e01 := (K1.out.keep z1 hb1) 1 _ rfl
      have e02 := (K1.out.keep z1 hb1) 2 _ rfl
      have e03 := (K1.out.keep z1 hb1) 3 _ rfl
      have e20 := (K2.out.keep k3 hb1) 0 _ rfl
      have e21 := (K2.out.keep k3 hb1) 1 _ rfl
      have e22 := (K2.out.keep k3 hb1) 2 _ rfl
      go_wp2_with fail
      go_ret
      exact ⟨by rw [hs.out]; rfl, hb1w⟩
  obtain ⟨ka, rfl⟩ := Int.eq_ofNat_of_zero_le ha
  obtain ⟨y, hy⟩ := get_some (L := p.blocks) (n := ka) (by omega)
  have hky : kindAt p ka = y.kind := by unfold kindAt; simp [List.getD, hy]
  rw [hky] at hth
  obtain ⟨b2, off2, rfl, hbw2, hc2⟩ := blk_at hbk (k := ka) (lt_of_get hy)
  obtain ⟨_, cc, _, _⟩ := hc2 ka y hy
  have r2 : ((ka : Int) < (p.blocks.length : Int)) = True := eq_true g1
  generalize hkk : y.kind = kk at *
  clear hc2 hy hky hkk hbk hv
  by_cases d36 : o = 36
  · subst d36
    have hs := Lib.hid (HE4.out hty (hth.trans (decide_eq_true ⟨g1, fun q => absurd q (by decide)⟩)))
    clear c9 c26 cn d1 d33 dv ds hth hty g1
    generalize p.consts.length = n0 at *
    generalize p.vars.length = n1 at *
    generalize p.blocks.length = n2 at *
    generalize p.units.length = n3 at *
    clear hx hux f4
    go_enter Tryd.func31, Tryd.ntmps31
    go_wp2_with fail
    refine (HR.out _).mono ?_; rintro e w1 ⟨rfl, hb1⟩
    rw [← HW0.out] at hb1
    have hb1w := k4.trans (hb1.mono k4.size)
    have y1 := Nat.lt_of_lt_of_le z1 hb1.size
    have y2 := Nat.lt_of_lt_of_le k3 hb1.size
    have e00 := (K1.out.keep z1 hb1) 0 _ rfl
    have e01 := (K1.out.keep z1 hb1) 1 _ rfl
    have e02 := (K1.out.keep z1 hb1) 2 _ rfl
    have e03 := (K1.out.keep z1 hb1) 3 _ rfl
    have e20 := (K2.out.keep k3 hb1) 0 _ rfl
    have e21 := (K2.out.keep k3 hb1) 1 _ rfl
    have e22 := (K2.out.keep k3 hb1) 2 _ rfl
    have cc1 := (hb1w.cell (p := ⟨b2, off2 + ka * 2 + 1, none⟩) hbw2).trans cc
    go_wp2_with fail
    go_ret
    exact ⟨by rw [hs.out]; rfl, hb1w⟩
  have HF := Lib.hid (fun (hk : 1 ≤ kk ∧ kk ≤ 8) W => ref11_Fields kk hk W)
  have HFn := Lib.hid (fun (hk : ¬ (1 ≤ kk ∧ kk ≤ 8)) W => ref11_Fields_no kk hk W)
  have hbn := @bF_no kk
  have hin := @bI_no kk
  have hbl : (bF kk).length ≤ 8 := by unfold bF; repeat' split
                                      all_goals decide
  by_cases d35 : o = 35
  · subst d35
    have hrn : reachN 35 kk = bI kk := by unfold reachN; exact if_pos rfl
    by_cases hk : 1 ≤ kk ∧ kk ≤ 8
    case neg =>
      have hr0 : reachN 35 kk = 0 := by rw [hrn, hin hk] <;> rfl
      have hs := Lib.hid (HE3.out hty (hth.trans (decide_eq_false (fun q => by have := q.2 (by decide); omega))))
      have HFn := Lib.hid (HFn.out hk)
      have r9 : (b < 0) = False := eq_false (by omega)
      clear c9 c26 cn d1 d33 dv ds hth hty g1 hrn hr0 hbn hin d36 HF hk hbl hbp
      generalize p.consts.length = n0 at *
      generalize p.vars.length = n1 at *
      generalize p.blocks.length = n2 at *
      generalize p.units.length = n3 at *
      clear hx hux f4
      go_enter Tryd.func31, Tryd.ntmps31
      go_wp2_with fail
      refine (HR.out _).mono ?_; rintro e w1 ⟨rfl, hb1⟩
      rw [← HW0.out] at hb1
      have hb1w := k4.trans (hb1.mono k4.size)
      have y1 := Nat.lt_of_lt_of_le z1 hb1.size
      have y2 := Nat.lt_of_lt_of_le k3 hb1.size
      have e00 := (K1.out.keep z1 hb1) 0 _ rfl
      have e01 := (K1.out.keep z1 hb1) 1 _ rfl
      have e02 := (K1.out.keep z1 hb1) 2 _ rfl
      have e03 := (K1.out.keep z1 hb1) 3 _ rfl
      have e20 := (K2.out.keep k3 hb1) 0 _ rfl
      have e21 := (K2.out.keep k3 hb1) 1 _ rfl
      have e22 := (K2.out.keep k3 hb1) 2 _ rfl
      have cc1 := (hb1w.cell (p := ⟨b2, off2 + ka * 2 + 1, none⟩) hbw2).trans cc
      go_wp2_with fail
      refine (HFn.out _).mono ?_; rintro e w2 ⟨rfl, rfl⟩
      go_wp2_with fail
      go_ret
      exact ⟨by rw [hs.out]; rfl, hb1w⟩
    have HF := Lib.hid (HF.out hk)
    rw [hrn] at hth
    by_cases g : b < bI kk
    all_goals
      have hs := Lib.hid (by first | exact HE4.out hty (hth.trans (decide_eq_true ⟨g1, fun _ => g⟩)) | exact HE3.out hty (hth.trans (decide_eq_false (fun q => g (q.2 (by decide))))))
      first | have qg := eq_false g | have qg := eq_true g
      clear c9 c26 cn d1 d33 dv ds hth hty g g1 hrn hbn hin d36 HFn hk hbp
      generalize (bF kk).length = fl at *
      generalize bI kk = il at *
      generalize nmV kk = nmv at *
      generalize tyV kk = tyv at *
      generalize p.consts.length = n0 at *
      generalize p.vars.length = n1 at *
      generalize p.blocks.length = n2 at *
      generalize p.units.length = n3 at *
      clear hx hux f4
      go_enter Tryd.func31, Tryd.ntmps31
      go_wp2_with fail
      refine (HR.out _).mono ?_; rintro e w1 ⟨rfl, hb1⟩
      rw [← HW0.out] at hb1
      have hb1w := k4.trans (hb1.mono k4.size)
      have y1 := Nat.lt_of_lt_of_le z1 hb1.size
      have y2 := Nat.lt_of_lt_of_le k3 hb1.size
      have e00 := (K1.out.keep z1 hb1) 0 _ rfl
      have e01 := (K1.out.keep z1 hb1) 1 _ rfl
      have e02 := (K1.out.keep z1 hb1) 2 _ rfl
      have e03 := (K1.out.keep z1 hb1) 3 _ rfl
      have e20 := (K2.out.keep k3 hb1) 0 _ rfl
      have e21 := (K2.out.keep k3 hb1) 1 _ rfl
      have e22 := (K2.out.keep k3 hb1) 2 _ rfl
      have cc1 := (hb1w.cell (p := ⟨b2, off2 + ka * 2 + 1, none⟩) hbw2).trans cc
      go_wp2_with fail
      refine (HF.out _).mono ?_; rintro e w2 ⟨rfl, rfl⟩
      go_wp2_with fail
      go_ret
      exact ⟨by rw [hs.out]; rfl, by first | (repeat' (first | (with_reducible exact Below.refl _ _) | (with_reducible assumption) | (with_reducible refine below_drewN ?_ _) | (with_reducible refine Below.alloc ?_ ?_ _) | (with_reducible refine Below.drew ?_) | (with_reducible refine Below.setCell ?_ ?_ _) | go_size)) | (refine hb1w.trans ?_; exact (show Below w1.heap.size w1 _ by (repeat' (first | (with_reducible exact Below.refl _ _) | (with_reducible assumption) | (with_reducible refine below_drewN ?_ _) | (with_reducible refine Below.alloc ?_ ?_ _) | (with_reducible refine Below.drew ?_) | (with_reducible refine Below.setCell ?_ ?_ _) | go_size))).mono hb1w.size)⟩
  by_cases d37 : o = 37
  · subst d37
    have hrn : reachN 37 kk = ((bF kk).length : Int) := by unfold reachN; exact if_neg (by decide)
    by_cases hk : 1 ≤ kk ∧ kk ≤ 8
    case neg =>
      have hr0 : reachN 37 kk = 0 := by rw [hrn, hbn hk] <;> rfl
      have hs := Lib.hid (HE3.out hty (hth.trans (decide_eq_false (fun q => by have := q.2 (by decide); omega))))
      have HFn := Lib.hid (HFn.out hk)
      have r9 : (b < 0) = False := eq_false (by omega)
      clear c9 c26 cn d1 d33 dv ds hth hty g1 hrn hr0 hbn hin d36 HF hk hbl hbp
      generalize p.consts.length = n0 at *
      generalize p.vars.length = n1 at *
      generalize p.blocks.length = n2 at *
      generalize p.units.length = n3 at *
      clear hx hux f4
      go_enter Tryd.func31, Tryd.ntmps31
      go_wp2_with fail
      refine (HR.out _).mono ?_; rintro e w1 ⟨rfl, hb1⟩
      rw [← HW0.out] at hb1
      have hb1w := k4.trans (hb1.mono k4.size)
      have y1 := Nat.lt_of_lt_of_le z1 hb1.size
      have y2 := Nat.lt_of_lt_of_le k3 hb1.size
      have e00 := (K1.out.keep z1 hb1) 0 _ rfl
      have e01 := (K1.out.keep z1 hb1) 1 _ rfl
      have e02 := (K1.out.keep z1 hb1) 2 _ rfl
      have e03 := (K1.out.keep z1 hb1) 3 _ rfl
      have e20 := (K2.out.keep k3 hb1) 0 _ rfl
      have e21 := (K2.out.keep k3 hb1) 1 _ rfl
      have e22 := (K2.out.keep k3 hb1) 2 _ rfl
      have cc1 := (hb1w.cell (p := ⟨b2, off2 + ka * 2 + 1, none⟩) hbw2).trans cc
      go_wp2_with fail
      refine (HFn.out _).mono ?_; rintro e w2 ⟨rfl, rfl⟩
      go_wp2_with fail
      go_ret
      exact ⟨by rw [hs.out]; rfl, hb1w⟩
    have HF := Lib.hid (HF.out hk)
    rw [hrn] at hth
    by_cases g : b < ((bF kk).length : Int)
    all_goals
      have hs := Lib.hid (by first | exact HE4.out hty (hth.trans (decide_eq_true ⟨g1, fun _ => g⟩)) | exact HE3.out hty (hth.trans (decide_eq_false (fun q => g (q.2 (by decide))))))
      first | have qg := eq_false g | have qg := eq_true g
      clear c9 c26 cn d1 d33 dv ds hth hty g g1 hrn hbn hin d36 HFn hk hbp
      generalize (bF kk).length = fl at *
      generalize bI kk = il at *
      generalize nmV kk = nmv at *
      generalize tyV kk = tyv at *
      generalize p.consts.length = n0 at *
      generalize p.vars.length = n1 at *
      generalize p.blocks.length = n2 at *
      generalize p.units.length = n3 at *
      clear hx hux f4
      go_enter Tryd.func31, Tryd.ntmps31
      go_wp2_with fail
      refine (HR.out _).mono ?_; rintro e w1 ⟨rfl, hb1⟩
      rw [← HW0.out] at hb1
      have hb1w := k4.trans (hb1.mono k4.size)
      have y1 := Nat.lt_of_lt_of_le z1 hb1.size
      have y2 := Nat.lt_of_lt_of_le k3 hb1.size
      have e00 := (K1.out.keep z1 hb1) 0 _ rfl
      have e01 := (K1.out.keep z1 hb1) 1 _ rfl
      have e02 := (K1.out.keep z1 hb1) 2 _ rfl
      have e03 := (K1.out.keep z1 hb1) 3 _ rfl
      have e20 := (K2.out.keep k3 hb1) 0 _ rfl
      have e21 := (K2.out.keep k3 hb1) 1 _ rfl
      have e22 := (K2.out.keep k3 hb1) 2 _ rfl
      have cc1 := (hb1w.cell (p := ⟨b2, off2 + ka * 2 + 1, none⟩) hbw2).trans cc
      go_wp2_with fail
      refine (HF.out _).mono ?_; rintro e w2 ⟨rfl, rfl⟩
      go_wp2_with fail
      go_ret
      exact ⟨by rw [hs.out]; rfl, by first | (repeat' (first | (with_reducible exact Below.refl _ _) | (with_reducible assumption) | (with_reducible refine below_drewN ?_ _) | (with_reducible refine Below.alloc ?_ ?_ _) | (with_reducible refine Below.drew ?_) | (with_reducible refine Below.setCell ?_ ?_ _) | go_size)) | (refine hb1w.trans ?_; exact (show Below w1.heap.size w1 _ by (repeat' (first | (with_reducible exact Below.refl _ _) | (with_reducible assumption) | (with_reducible refine below_drewN ?_ _) | (with_reducible refine Below.alloc ?_ ?_ _) | (with_reducible refine Below.drew ?_) | (with_reducible refine Below.setCell ?_ ?_ _) | go_size))).mono hb1w.size)⟩
  exact absurd db (by omega)
end Go.Proofs.YtnkmnmlhjanplaaDoor

/- Layer 18: where one may go on from a place. -/
namespace Go.Proofs.YtnkmnmlhjanplaaDoor
open Go.RowKit
set_option linter.unusedSimpArgs false
set_option linter.unusedVariables false
def opAt (L : List Ins) (k : Nat) : Int := (L.getD k (0, 0, 0)).1
def armsP (L : List Ins) (pc : Nat) (a : Int) : Bool := (List.range a.toNat).all fun k => opAt L (pc + 1 + k) == 30
/-- what is wrong with where one goes on from an instruction whose operand isn't below 0 -/
def jumpP (L : List Ins) (pc : Nat) (o a : Int) : Int :=
  if o = 30 ∨ o = 31 then (if a < L.length then 0 else 11) else if o = 32 then (if a < (L.length : Int) - 1 - pc then (if armsP L pc a = true then 0 else 11) else 11) else 0
theorem jumpP_j {L : List Ins} {pc : Nat} {o a : Int} (h : o = 30 ∨ o = 31) : jumpP L pc o a = if a < L.length then 0 else 11 := if_pos h
theorem jumpP_s {L : List Ins} {pc : Nat} {a : Int} : jumpP L pc 32 a = if a < (L.length : Int) - 1 - pc then (if armsP L pc a = true then 0 else 11) else 11 := by unfold jumpP; rw [if_neg (by decide), if_pos rfl]
theorem jumpP_n {L : List Ins} {pc : Nat} {o a : Int} (h : ¬ (o = 30 ∨ o = 31)) (h2 : o ≠ 32) : jumpP L pc o a = 0 := by unfold jumpP; rw [if_neg h, if_neg h2]
theorem armsP_yes {L : List Ins} {pc : Nat} {a : Int} (h : ∀ k, k < a.toNat → opAt L (pc + 1 + k) = 30) : armsP L pc a = true := by
  unfold armsP; rw [List.all_eq_true]; intro k hk; rw [List.mem_range] at hk; rw [h k hk]; rfl
theorem armsP_no {L : List Ins} {pc : Nat} {a : Int} {k : Nat} (hk : k < a.toNat) (h : opAt L (pc + 1 + k) ≠ 30) : armsP L pc a = false := by
  rw [Bool.eq_false_iff]; intro ha
  unfold armsP at ha; rw [List.all_eq_true] at ha
  have := ha k (List.mem_range.2 hk)
  exact h (by simpa using this)
theorem code_at {w : World} {a : Option Addr} {n cap : Nat} {L : List Ins} (hv : RowR 3 insR w (.slice a n cap) L) {k : Nat} (hk : k < L.length) : ∃ b off, a = some ⟨b, off, none⟩ ∧ b < w.heap.size ∧ ∀ i x, L[i]? = some x → w.cell? ⟨b, off + i * 3, none⟩ = some (.int .i64 x.1) ∧ w.cell? ⟨b, off + i * 3 + 1, none⟩ = some (.int .i64 x.2.1) ∧ w.cell? ⟨b, off + i * 3 + 2, none⟩ = some (.int .i64 x.2.2) ∧ I64 x.1 ∧ I64 x.2.1 ∧ I64 x.2.2 := by
  obtain ⟨b, off, e, hb, h⟩ := row_at hv hk
  exact ⟨b, off, e, hb, fun i x hx => ins_cells h hx⟩
theorem opAt_get {L : List Ins} {k : Nat} {x : Ins} (h : L[k]? = some x) : opAt L k = x.1 := by unfold opAt; simp [List.getD, h]
set_option maxRecDepth 100000 in
set_option maxHeartbeats 4000000 in
theorem refs_Jump (v : Value) (L : List Ins) (pc : Nat) (x : Ins) (w : World) (h : RowR 3 insR w v L) (hx : L[pc]? = some x) (ha : 0 ≤ x.2.1) (hL : L.length ≤ 300) :
    Calls Tryd.prog 26 #[v, .int .i64 pc] w fun e w' => e = .returned (.int .i64 (jumpP L pc x.1 x.2.1)) ∧ Below w.heap.size w w' := by
  have cp := @cell_past
  obtain ⟨s, t, rfl⟩ := row_get h
  obtain ⟨b, off, rfl, hbw, hc⟩ := code_at h (lt_of_get hx)
  obtain ⟨c0, c1, c2, i0, i1, i2⟩ := hc pc x hx
  have hpc := lt_of_get hx
  have q0 : ((pc : Int) < 0) = False := eq_false (by omega)
  have q1 : ((L.length : Int) ≤ (pc : Int)) = False := eq_false (by omega)
  have q2 : ((pc : Int) < (L.length : Int)) = True := eq_true (by omega)
  obtain ⟨o, a, bb⟩ := x
  simp only at ha c0 c1 c2 i0 i1 i2 ⊢
  have r0 : (a < 0) = False := eq_false (by omega)
  by_cases d : o = 30 ∨ o = 31
  · have hj := jumpP_j (L := L) (pc := pc) (a := a) d
    by_cases g : a < L.length
    · have hs := Lib.hid (hj.trans (if_pos g))
      have g1 : (a < (L.length : Int)) = True := eq_true g
      have g2 : ((L.length : Int) ≤ a) = False := eq_false (by omega)
      generalize L.length = n at *
      clear hj hc h hx hpc g
      rcases d with rfl | rfl
      all_goals
        go_enter Tryd.func26, Tryd.ntmps26
        go_wp2_with fail
        go_ret
        exact ⟨by rw [hs.out]; rfl, by (repeat' (first | (with_reducible exact Below.refl _ _) | (with_reducible assumption) | (with_reducible refine below_drewN ?_ _) | (with_reducible refine Below.alloc ?_ ?_ _) | (with_reducible refine Below.drew ?_) | (with_reducible refine Below.setCell ?_ ?_ _) | go_size))⟩
    · have hs := Lib.hid (hj.trans (if_neg g))
      have g1 : (a < (L.length : Int)) = False := eq_false g
      have g2 : ((L.length : Int) ≤ a) = True := eq_true (by omega)
      generalize L.length = n at *
      clear hj hc h hx hpc g
      rcases d with rfl | rfl
      all_goals
        go_enter Tryd.func26, Tryd.ntmps26
        go_wp2_with fail
        go_ret
        exact ⟨by rw [hs.out]; rfl, by (repeat' (first | (with_reducible exact Below.refl _ _) | (with_reducible assumption) | (with_reducible refine below_drewN ?_ _) | (with_reducible refine Below.alloc ?_ ?_ _) | (with_reducible refine Below.drew ?_) | (with_reducible refine Below.setCell ?_ ?_ _) | go_size))⟩
  by_cases d2 : o = 32
  · subst d2
    have hj := jumpP_s (L := L) (pc := pc) (a := a)
    by_cases g : a < (L.length : Int) - 1 - pc
    · rw [if_pos g] at hj
      have HY := Lib.hid (fun hh => hj.trans (if_pos (armsP_yes (L := L) (pc := pc) (a := a) hh)))
      have HN := Lib.hid (fun k hk hh => hj.trans (if_neg (by rw [armsP_no (L := L) (pc := pc) (a := a) (k := k) hk hh]; decide)))
      have g2 : ((L.length : Int) - 1 - pc ≤ a) = False := eq_false (by omega)
      have HG := Lib.hid g
      obtain ⟨n, hn⟩ : ∃ n, L.length = n := ⟨_, rfl⟩
      have Hn := Lib.hid hn
      have Hc := Lib.hid hc
      clear hj g d hc h hx
      rw [hn] at HG q1 q2 g2 hpc hL
      rw [hn]
      clear hn
      go_enter Tryd.func26, Tryd.ntmps26
      go_wp2_with fail
      go_loopw [6] (fun jj wr => ∃ k : Nat, (k : Int) ≤ a ∧ jj = .int .i64 ((k : Int) + 1) ∧ Hid (∀ j, j < k → opAt L (pc + 1 + j) = 30) ∧ wr = w.alloc (.cells #[.int .i64 32, .int .i64 a, .int .i64 bb] 45)) (fun jj _ => (a + 1 - intOf jj).toNat)
      case atStart => exact ⟨0, by omega, rfl, Lib.hid (fun j hj => by omega), rfl⟩
      case round =>
        obtain ⟨k, hk, rfl, hall, rfl⟩ := hrel
        by_cases hlt : (k : Int) + 1 ≤ a
        · have m1 : ((k : Int) + 1 ≤ a) = True := eq_true hlt
          have hltH := Lib.hid hlt
          have hkn : pc + 1 + k < n := by have := HG.out; omega
          obtain ⟨y, hy⟩ := get_some (L := L) (n := pc + 1 + k) (by rw [Hn.out]; exact hkn)
          obtain ⟨y0, _⟩ := Hc.out _ y hy
          have hoy := opAt_get hy
          have m2 : (0 ≤ (pc : Int) + ((k : Int) + 1)) = True := eq_true (by omega)
          have m3 : ((pc : Int) + ((k : Int) + 1) < (n : Int)) = True := eq_true (by omega)
          have m4 : ((pc : Int) + ((k : Int) + 1)).toNat = pc + 1 + k := by omega
          by_cases g30 : y.1 = 30
          · have hs := Lib.hid (show ∀ j, j < k + 1 → opAt L (pc + 1 + j) = 30 by
              intro j hj
              by_cases hjk : j = k
              · rw [hjk, hoy, g30]
              · exact hall.out j (by omega))
            rw [g30] at y0
            clear hy hoy g30 hall hlt
            go_wp2_with fail
            go_roundw
            case rel => exact ⟨k + 1, by have := hltH.out; omega, by simp, hs, trivial⟩
            case measure => have := hltH.out; first | (simp [intOf]; done) | (simp [intOf]; omega)
          · have hs := Lib.hid (HN.out k (by omega) (by rw [hoy]; exact g30))
            have m5 : (y.1 != 30) = true := by simpa using g30
            generalize y.1 = yo at *
            clear hy hoy g30 hall hlt
            go_wp2_with fail
            go_ret
            exact ⟨by rw [hs.out]; rfl, by (repeat' (first | (with_reducible exact Below.refl _ _) | (with_reducible assumption) | (with_reducible refine below_drewN ?_ _) | (with_reducible refine Below.alloc ?_ ?_ _) | (with_reducible refine Below.drew ?_) | (with_reducible refine Below.setCell ?_ ?_ _) | go_size))⟩
        · have m1 : ((k : Int) + 1 ≤ a) = False := eq_false hlt
          have hs := Lib.hid (HY.out (fun j hj => hall.out j (by omega)))
          clear hall hlt
          go_wp2_with fail
          go_ret
          exact ⟨by rw [hs.out]; rfl, by (repeat' (first | (with_reducible exact Below.refl _ _) | (with_reducible assumption) | (with_reducible refine below_drewN ?_ _) | (with_reducible refine Below.alloc ?_ ?_ _) | (with_reducible refine Below.drew ?_) | (with_reducible refine Below.setCell ?_ ?_ _) | go_size))⟩
    · have hs := Lib.hid (hj.trans (if_neg g))
      have g2 : ((L.length : Int) - 1 - pc ≤ a) = True := eq_true (by omega)
      generalize L.length = n at *
      clear hj hc h hx g d
      go_enter Tryd.func26, Tryd.ntmps26
      go_wp2_with fail
      go_ret
      exact ⟨by rw [hs.out]; rfl, by (repeat' (first | (with_reducible exact Below.refl _ _) | (with_reducible assumption) | (with_reducible refine below_drewN ?_ _) | (with_reducible refine Below.alloc ?_ ?_ _) | (with_reducible refine Below.drew ?_) | (with_reducible refine Below.setCell ?_ ?_ _) | go_size))⟩
  · have hs := Lib.hid (jumpP_n (L := L) (pc := pc) (a := a) d d2)
    have v0 : (o == 30) = false := beq_eq_false_iff_ne.2 (fun q => d (Or.inl q))
    have v1 : (o == 31) = false := beq_eq_false_iff_ne.2 (fun q => d (Or.inr q))
    have v2 : (o == 32) = false := beq_eq_false_iff_ne.2 d2
    generalize L.length = n at *
    clear hc h hx hpc d d2
    go_enter Tryd.func26, Tryd.ntmps26
    go_wp2_with fail
    go_ret
    exact ⟨by rw [hs.out]; rfl, by (repeat' (first | (with_reducible exact Below.refl _ _) | (with_reducible assumption) | (with_reducible refine below_drewN ?_ _) | (with_reducible refine Below.alloc ?_ ?_ _) | (with_reducible refine Below.drew ?_) | (with_reducible refine Below.setCell ?_ ?_ _) | go_size))⟩
end Go.Proofs.YtnkmnmlhjanplaaDoor

/- Layer 18: where one may go on from a place, by the answer. -/
namespace Go.Proofs.YtnkmnmlhjanplaaDoor
open Go.RowKit
set_option linter.unusedSimpArgs false
set_option linter.unusedVariables false
set_option maxRecDepth 100000 in
set_option maxHeartbeats 4000000 in
theorem ref18_Jump (v : Value) (L : List Ins) (pc : Nat) (x : Ins) (w : World) (h : RowR 3 insR w v L) (hx : L[pc]? = some x) (ha : 0 ≤ x.2.1) (hL : L.length ≤ 300) :
    Calls Tryd.prog 32 #[v, .int .i64 pc] w fun e w' => e = .returned (.int .i64 (jumpP L pc x.1 x.2.1)) ∧ Below w.heap.size w w' := by
  have cp := @cell_past
  obtain ⟨s, t, rfl⟩ := row_get h
  obtain ⟨b, off, rfl, hbw, hc⟩ := code_at h (lt_of_get hx)
  obtain ⟨c0, c1, c2, i0, i1, i2⟩ := hc pc x hx
  have hpc := lt_of_get hx
  have q0 : ((pc : Int) < 0) = False := eq_false (by omega)
  have q1 : ((L.length : Int) ≤ (pc : Int)) = False := eq_false (by omega)
  have q2 : ((pc : Int) < (L.length : Int)) = True := eq_true (by omega)
  obtain ⟨o, a, bb⟩ := x
  simp only at ha c0 c1 c2 i0 i1 i2 ⊢
  have r0 : (a < 0) = False := eq_false (by omega)
  by_cases d : o = 30 ∨ o = 31
  · have hj := jumpP_j (L := L) (pc := pc) (a := a) d
    by_cases g : a < L.length
    · have hs := Lib.hid (hj.trans (if_pos g))
      have g1 : (a < (L.length : Int)) = True := eq_true g
      have g2 : ((L.length : Int) ≤ a) = False := eq_false (by omega)
      generalize L.length = n at *
      clear hj hc h hx hpc g
      rcases d with rfl | rfl
      all_goals
        go_enter Tryd.func32, Tryd.ntmps32
        go_wp2_with fail
        go_ret
        exact ⟨by rw [hs.out]; rfl, by (repeat' (first | (with_reducible exact Below.refl _ _) | (with_reducible assumption) | (with_reducible refine below_drewN ?_ _) | (with_reducible refine Below.alloc ?_ ?_ _) | (with_reducible refine Below.drew ?_) | (with_reducible refine Below.setCell ?_ ?_ _) | go_size))⟩
    · have hs := Lib.hid (hj.trans (if_neg g))
      have g1 : (a < (L.length : Int)) = False := eq_false g
      have g2 : ((L.length : Int) ≤ a) = True := eq_true (by omega)
      generalize L.length = n at *
      clear hj hc h hx hpc g
      rcases d with rfl | rfl
      all_goals
        go_enter Tryd.func32, Tryd.ntmps32
        go_wp2_with fail
        go_ret
        exact ⟨by rw [hs.out]; rfl, by (repeat' (first | (with_reducible exact Below.refl _ _) | (with_reducible assumption) | (with_reducible refine below_drewN ?_ _) | (with_reducible refine Below.alloc ?_ ?_ _) | (with_reducible refine Below.drew ?_) | (with_reducible refine Below.setCell ?_ ?_ _) | go_size))⟩
  by_cases d2 : o = 32
  · subst d2
    have hj := jumpP_s (L := L) (pc := pc) (a := a)
    by_cases g : a < (L.length : Int) - 1 - pc
    · rw [if_pos g] at hj
      have HY := Lib.hid (fun hh => hj.trans (if_pos (armsP_yes (L := L) (pc := pc) (a := a) hh)))
      have HN := Lib.hid (fun k hk hh => hj.trans (if_neg (by rw [armsP_no (L := L) (pc := pc) (a := a) (k := k) hk hh]; decide)))
      have g2 : ((L.length : Int) - pc - 1 ≤ a) = False := eq_false (by omega)
      have HG := Lib.hid g
      obtain ⟨n, hn⟩ : ∃ n, L.length = n := ⟨_, rfl⟩
      have Hn := Lib.hid hn
      have Hc := Lib.hid hc
      clear hj g d hc h hx
      rw [hn] at HG q1 q2 g2 hpc hL
      rw [hn]
      clear hn
      go_enter Tryd.func32, Tryd.ntmps32
      go_wp2_with fail
      go_loopw [6] (fun jj wr => ∃ k : Nat, (k : Int) ≤ a ∧ jj = .int .i64 (k : Int) ∧ Hid (∀ j, j < k → opAt L (pc + 1 + j) = 30) ∧ wr = w.alloc (.cells #[.int .i64 32, .int .i64 a, .int .i64 bb] 45)) (fun jj _ => (a - intOf jj).toNat)
      case atStart => exact ⟨0, by omega, rfl, Lib.hid (fun j hj => by omega), rfl⟩
      case round =>
        obtain ⟨k, hk, rfl, hall, rfl⟩ := hrel
        by_cases hlt : (k : Int) < a
        · have m1 : ((k : Int) < a) = True := eq_true hlt
          have hltH := Lib.hid hlt
          have hkn : pc + 1 + k < n := by have := HG.out; omega
          obtain ⟨y, hy⟩ := get_some (L := L) (n := pc + 1 + k) (by rw [Hn.out]; exact hkn)
          obtain ⟨y0, _⟩ := Hc.out _ y hy
          have hoy := opAt_get hy
          have m2 : (0 ≤ (pc : Int) + 1 + (k : Int)) = True := eq_true (by omega)
          have m3 : ((pc : Int) + 1 + (k : Int) < (n : Int)) = True := eq_true (by omega)
          have m4 : ((pc : Int) + 1 + (k : Int)).toNat = pc + 1 + k := by omega
          by_cases g30 : y.1 = 30
          · have hs := Lib.hid (show ∀ j, j < k + 1 → opAt L (pc + 1 + j) = 30 by
              intro j hj
              by_cases hjk : j = k
              · rw [hjk, hoy, g30]
              · exact hall.out j (by omega))
            rw [g30] at y0
            clear hy hoy g30 hall hlt
            go_wp2_with fail
            go_roundw
            case rel => exact ⟨k + 1, by have := hltH.out; omega, by simp, hs, trivial⟩
            case measure => have := hltH.out; first | (simp [intOf]; done) | (simp [intOf]; omega)
          · have hs := Lib.hid (HN.out k (by omega) (by rw [hoy]; exact g30))
            have m5 : (y.1 != 30) = true := by simpa using g30
            generalize y.1 = yo at *
            clear hy hoy g30 hall hlt
            go_wp2_with fail
            go_ret
            exact ⟨by rw [hs.out]; rfl, by (repeat' (first | (with_reducible exact Below.refl _ _) | (with_reducible assumption) | (with_reducible refine below_drewN ?_ _) | (with_reducible refine Below.alloc ?_ ?_ _) | (with_reducible refine Below.drew ?_) | (with_reducible refine Below.setCell ?_ ?_ _) | go_size))⟩
        · have m1 : ((k : Int) < a) = False := eq_false hlt
          have hs := Lib.hid (HY.out (fun j hj => hall.out j (by omega)))
          clear hall hlt
          go_wp2_with fail
          go_ret
          exact ⟨by rw [hs.out]; rfl, by (repeat' (first | (with_reducible exact Below.refl _ _) | (with_reducible assumption) | (with_reducible refine below_drewN ?_ _) | (with_reducible refine Below.alloc ?_ ?_ _) | (with_reducible refine Below.drew ?_) | (with_reducible refine Below.setCell ?_ ?_ _) | go_size))⟩
    · have hs := Lib.hid (hj.trans (if_neg g))
      have g2 : ((L.length : Int) - pc - 1 ≤ a) = True := eq_true (by omega)
      generalize L.length = n at *
      clear hj hc h hx g d
      go_enter Tryd.func32, Tryd.ntmps32
      go_wp2_with fail
      go_ret
      exact ⟨by rw [hs.out]; rfl, by (repeat' (first | (with_reducible exact Below.refl _ _) | (with_reducible assumption) | (with_reducible refine below_drewN ?_ _) | (with_reducible refine Below.alloc ?_ ?_ _) | (with_reducible refine Below.drew ?_) | (with_reducible refine Below.setCell ?_ ?_ _) | go_size))⟩
  · have hs := Lib.hid (jumpP_n (L := L) (pc := pc) (a := a) d d2)
    have v0 : (o == 30) = false := beq_eq_false_iff_ne.2 (fun q => d (Or.inl q))
    have v1 : (o == 31) = false := beq_eq_false_iff_ne.2 (fun q => d (Or.inr q))
    have v2 : (o != 32) = true := by simpa using d2
    generalize L.length = n at *
    clear hc h hx hpc d d2
    go_enter Tryd.func32, Tryd.ntmps32
    go_wp2_with fail
    go_ret
    exact ⟨by rw [hs.out]; rfl, by (repeat' (first | (with_reducible exact Below.refl _ _) | (with_reducible assumption) | (with_reducible refine below_drewN ?_ _) | (with_reducible refine Below.alloc ?_ ?_ _) | (with_reducible refine Below.drew ?_) | (with_reducible refine Below.setCell ?_ ?_ _) | go_size))⟩
end Go.Proofs.YtnkmnmlhjanplaaDoor

/- Layer 18: the first instruction of a unit that has something that isn't there. -/
namespace Go.Proofs.YtnkmnmlhjanplaaDoor
open Go.RowKit
set_option linter.unusedSimpArgs false
set_option linter.unusedVariables false
def errAt (p : Pr) (u : Int) (L : List Ins) (k : Nat) : Int :=
  let x := L.getD k (0, 0, 0)
  if oneP p u x.1 x.2.1 x.2.2 = 0 then jumpP L k x.1 x.2.1 else oneP p u x.1 x.2.1 x.2.2
def firstP (f : Nat → Int) (n : Nat) : Int × Int := match (List.range n).find? (fun k => f k != 0) with | some k => (k, f k) | none => (0, 0)
theorem find_range {f : Nat → Bool} : ∀ {n k : Nat}, k < n → (∀ j, j < k → f j = false) → f k = true → (List.range n).find? f = some k := by
  intro n
  induction n with
  | zero => intro k h; omega
  | succ n ih =>
    intro k h h1 h2
    rw [List.range_succ, List.find?_append]
    by_cases hk : k < n
    · rw [ih hk h1 h2]; rfl
    · obtain rfl : k = n := by omega
      have : (List.range k).find? f = none := by
        rw [List.find?_eq_none]; intro x hx; rw [List.mem_range] at hx; rw [h1 x hx]; decide
      rw [this]; simp [h2]
theorem firstP_hit {f : Nat → Int} {n k : Nat} (h : k < n) (h1 : ∀ j, j < k → f j = 0) (h2 : f k ≠ 0) : firstP f n = ((k : Int), f k) := by
  unfold firstP
  rw [find_range h (fun j hj => by simp [h1 j hj]) (by simpa using h2)]
theorem firstP_none {f : Nat → Int} {n : Nat} (h1 : ∀ j, j < n → f j = 0) : firstP f n = (0, 0) := by
  unfold firstP
  have : (List.range n).find? (fun k => f k != 0) = none := by
    rw [List.find?_eq_none]; intro x hx; rw [List.mem_range] at hx; rw [h1 x hx]; decide
  rw [this]
def chkP (p : Pr) (u : Int) : Int × Int := if ¬ (0 ≤ u ∧ u < p.units.length) then (0, 15) else firstP (errAt p u (unAt p u).code) (unAt p u).code.length
theorem chkP_u {p : Pr} {u : Int} (h : ¬ (0 ≤ u ∧ u < p.units.length)) : chkP p u = (0, 15) := if_pos h
theorem chkP_is {p : Pr} {u : Int} (h : 0 ≤ u ∧ u < p.units.length) : chkP p u = firstP (errAt p u (unAt p u).code) (unAt p u).code.length := if_neg (fun q => q h)
theorem oneP_zero {p : Pr} {u o a b : Int} (h : oneP p u o a b = 0) : 0 ≤ a := by
  unfold oneP at h
  split at h
  · omega
  · split at h
    · omega
    · rename_i h1 h2
      exact (oRight_pos (by simpa using h2)).2.1
theorem errAt_one {p : Pr} {u : Int} {L : List Ins} {k : Nat} {x : Ins} (hx : L[k]? = some x) (h : oneP p u x.1 x.2.1 x.2.2 ≠ 0) : errAt p u L k = oneP p u x.1 x.2.1 x.2.2 := by
  unfold errAt; rw [show L.getD k (0, 0, 0) = x by simp [List.getD, hx]]; exact if_neg h
theorem errAt_jump {p : Pr} {u : Int} {L : List Ins} {k : Nat} {x : Ins} (hx : L[k]? = some x) (h : oneP p u x.1 x.2.1 x.2.2 = 0) : errAt p u L k = jumpP L k x.1 x.2.1 := by
  unfold errAt; rw [show L.getD k (0, 0, 0) = x by simp [List.getD, hx]]; exact if_pos h
set_option maxRecDepth 100000 in
set_option maxHeartbeats 8000000 in
theorem refs_Check (pc pv pb pu : Value) (p : Pr) (u : Int) (w : World) (h : PrAt w pc pv pb pu p) (hT : TabR w) (hf : fewP p = true) :
    Calls Tryd.prog 14 #[.agg #[pc, pv, pb, pu], .int .i64 u] w fun e w' => e = .returned (.tuple #[.int .i64 (chkP p u).1, .int .i64 (chkP p u).2]) ∧ Below w.heap.size w w' := by
  have cp := @cell_past
  obtain ⟨⟨f0, f1, f2, f3⟩, _, _, f4⟩ := fewP_is hf
  have hun := h.us
  have HO := Lib.hid (fun (x : Ins) W (hb : Below w.heap.size w W) => refs_One pc pv pb pu p u x.1 x.2.1 x.2.2 W (h.below hb) (hT.below hb) hf)
  obtain ⟨s3, t3, rfl⟩ := row_get h.us
  clear h hT
  by_cases hu0 : u < 0
  · have hs := Lib.hid (chkP_u (p := p) (u := u) (by omega))
    generalize p.units.length = n3 at *
    have q0 : (u < 0) = True := eq_true hu0
    clear hu0
    go_enter Tryd.func14, Tryd.ntmps14
    go_wp2_with fail
    go_returns
    exact ⟨by rw [hs.out]; rfl, by (repeat' (first | (with_reducible exact Below.refl _ _) | (with_reducible assumption) | (with_reducible refine below_drewN ?_ _) | (with_reducible refine Below.alloc ?_ ?_ _) | (with_reducible refine Below.drew ?_) | (with_reducible refine Below.setCell ?_ ?_ _) | go_size))⟩
  have q0 : (u < 0) = False := eq_false hu0
  by_cases hu1 : u < p.units.length
  case neg =>
    have hs := Lib.hid (chkP_u (p := p) (u := u) (by omega))
    generalize p.units.length = n3 at *
    have q1 : ((n3 : Int) ≤ u) = True := eq_true (by omega)
    have q2 : (u < (n3 : Int)) = False := eq_false (by omega)
    clear hu0 hu1
    go_enter Tryd.func14, Tryd.ntmps14
    go_wp2_with fail
    go_returns
    exact ⟨by rw [hs.out]; rfl, by (repeat' (first | (with_reducible exact Below.refl _ _) | (with_reducible assumption) | (with_reducible refine below_drewN ?_ _) | (with_reducible refine Below.alloc ?_ ?_ _) | (with_reducible refine Below.drew ?_) | (with_reducible refine Below.setCell ?_ ?_ _) | go_size))⟩
  have q1 : ((p.units.length : Int) ≤ u) = False := eq_false (by omega)
  have q2 : (u < (p.units.length : Int)) = True := eq_true (by omega)
  have hc := chkP_is (p := p) (u := u) (by omega)
  obtain ⟨i, rfl⟩ := Int.eq_ofNat_of_zero_le (show 0 ≤ u by omega)
  obtain ⟨y, hy⟩ := get_some (L := p.units) (n := i) (by omega)
  have huy : unAt p i = y := by unfold unAt; simp [List.getD, hy]
  rw [huy] at hc
  obtain ⟨b3, off3, rfl, hbw3, hc3⟩ := unit_at hun (k := i) (lt_of_get hy)
  obtain ⟨u1, u3, u4, c0, c1, c2, c3, c4, hU⟩ := hc3 i y hy
  have hyf := (fewU_is (f4 y (List.mem_of_getElem? hy))).2.2.2
  have hcode := hU.cs
  generalize y.code = L at *
  have HC := Lib.hid hc
  have hi3 : i < p.units.length := by omega
  clear hc hc3 hU hy huy hun f4
  generalize p.units.length = n3 at *
  obtain ⟨sc, tc, rfl⟩ := row_get hcode
  obtain ⟨N, hN⟩ : ∃ N, L.length = N := ⟨_, rfl⟩
  have HN := Lib.hid hN
  have HCd := Lib.hid hcode
  rw [hN] at c4 hyf HCd
  clear hcode hN hu0 hu1
  go_enter Tryd.func14, Tryd.ntmps14
  go_wp2_with fail
  go_loopw [27] (fun jj wr => ∃ k : Nat, k ≤ N ∧ jj = .int .i64 k ∧ Hid (∀ j, j < k → errAt p i L j = 0) ∧ Hid (Below (w.heap.size + 1) (w.alloc (.cells #[pc, pv, pb, .slice (some ⟨b3, off3, none⟩) n3 t3] 27)) wr)) (fun jj _ => N - (intOf jj).toNat)
  case atStart => exact ⟨0, by omega, rfl, Lib.hid (fun j hj => by omega), Lib.hid (Below.refl _ _)⟩
  case round =>
    obtain ⟨k, hk, rfl, hall, hBw⟩ := hrel
    have z0 : w.heap.size < wr.heap.size := by have := hBw.out.size; simp at this; omega
    have hB0 : Below w.heap.size w wr := Below.trans (by (repeat' (first | (with_reducible exact Below.refl _ _) | (with_reducible assumption) | (with_reducible refine below_drewN ?_ _) | (with_reducible refine Below.alloc ?_ ?_ _) | (with_reducible refine Below.drew ?_) | (with_reducible refine Below.setCell ?_ ?_ _) | go_size))) (hBw.out.mono (by omega))
    have bx := Boxed.new w [pc, pv, pb, .slice (some ⟨b3, off3, none⟩) n3 t3] 27 hBw.out
    have e0 := bx 0 _ rfl
    have e1 := bx 1 _ rfl
    have e2 := bx 2 _ rfl
    have e3 := bx 3 _ rfl
    clear bx
    by_cases hlt : k < N
    · obtain ⟨x, hx⟩ := get_some (L := L) (n := k) (by rw [HN.out]; exact hlt)
      have HX := Lib.hid hx
      obtain ⟨bc, offc, rfl, hbc, hcc⟩ := code_at HCd.out (k := k) (lt_of_get hx)
      obtain ⟨x0', x1', x2', _⟩ := hcc k x hx
      have x0 := (hB0.cell (p := ⟨bc, offc + k * 3, none⟩) hbc).trans x0'
      have x1 := (hB0.cell (p := ⟨bc, offc + k * 3 + 1, none⟩) hbc).trans x1'
      have x2 := (hB0.cell (p := ⟨bc, offc + k * 3 + 2, none⟩) hbc).trans x2'
      have HO1 := Lib.hid (HO.out x)
      have HJ := Lib.hid (fun W (hb : Below w.heap.size w W) (hz : 0 ≤ x.2.1) => refs_Jump _ L k x W (HCd.out.below insR_stable hb) HX.out hz (by rw [HN.out]; exact hyf))
      have HE1 := Lib.hid (fun hh => errAt_one (p := p) (u := i) HX.out hh)
      have HE2 := Lib.hid (fun hh => errAt_jump (p := p) (u := i) HX.out hh)
      have HZ := Lib.hid (fun hh => oneP_zero (p := p) (u := i) (o := x.1) (a := x.2.1) (b := x.2.2) hh)
      obtain ⟨xo, xa, xb⟩ := x
      simp only at x0 x1 x2 HO1 HJ HE1 HE2 HZ
      clear hcc x0' x1' x2' hx
      go_wp2_with fail
      refine (HO1.out _ (Below.trans hB0 ((show Below wr.heap.size wr _ by (repeat' (first | (with_reducible exact Below.refl _ _) | (with_reducible assumption) | (with_reducible refine below_drewN ?_ _) | (with_reducible refine Below.alloc ?_ ?_ _) | (with_reducible refine Below.drew ?_) | (with_reducible refine Below.setCell ?_ ?_ _) | go_size))).mono hB0.size))).mono ?_; rintro e w1 ⟨rfl, hb1⟩
      have hb1 : Below wr.heap.size wr w1 := Below.trans (by (repeat' (first | (with_reducible exact Below.refl _ _) | (with_reducible assumption) | (with_reducible refine below_drewN ?_ _) | (with_reducible refine Below.alloc ?_ ?_ _) | (with_reducible refine Below.drew ?_) | (with_reducible refine Below.setCell ?_ ?_ _) | go_size))) (hb1.mono (by simp))
      by_cases g0 : oneP p i xo xa xb = 0
      · have HE := HE2.out g0
        have HJ := Lib.hid (fun W hb => HJ.out W hb (HZ.out g0))
        rw [g0]
        clear HE1 HE2 HZ
        go_wp2_with fail
        refine (HJ.out _ (hB0.trans (hb1.mono hB0.size))).mono ?_; rintro e w2 ⟨rfl, hb2⟩
        have hb2 := hb1.trans (hb2.mono hb1.size)
        generalize hj : jumpP L k xo xa = jv at *
        by_cases gj : jv = 0
        · subst gj
          have hs := Lib.hid (show ∀ j, j < k + 1 → errAt p i L j = 0 by
            intro j hjk
            by_cases hh : j = k
            · rw [hh]; exact HE
            · exact hall.out j (by omega))
          have hB2 := Lib.hid (Below.trans hBw.out (hb2.mono (by omega)))
          clear HE hall hj g0
          go_wp2_with fail
          go_roundw
          case rel => exact ⟨k + 1, by omega, by simp, hs, hB2⟩
          case measure => first | (simp [intOf]; done) | (simp [intOf]; omega)
        · have hs := Lib.hid (HC.out.trans (firstP_hit (by rw [HN.out]; exact hlt) hall.out (by rw [HE]; exact gj)))
          rw [HE] at hs
          have qj : (jv != 0) = true := by simpa using gj
          clear HE hall hj g0 gj
          go_wp2_with fail
          go_returns
          exact ⟨by rw [hs.out]; rfl, hB0.trans (hb2.mono hB0.size)⟩
      · have HE := HE1.out g0
        have hs := Lib.hid (HC.out.trans (firstP_hit (by rw [HN.out]; exact hlt) hall.out (by rw [HE]; exact g0)))
        rw [HE] at hs
        generalize oneP p i xo xa xb = ev at *
        have qj : (ev != 0) = true := by simpa using g0
        have qk : (ev == 0) = false := by simpa using g0
        clear HE hall g0 HE1 HE2 HZ HJ
        go_wp2_with fail
        go_returns
        exact ⟨by rw [hs.out]; rfl, hB0.trans (hb1.mono hB0.size)⟩
    · obtain rfl : k = N := by omega
      have hs := Lib.hid (HC.out.trans (firstP_none (by rw [HN.out]; exact hall.out)))
      clear hall
      go_wp2_with fail
      go_returns
      exact ⟨by rw [hs.out]; rfl, hB0⟩
set_option maxRecDepth 100000 in
set_option maxHeartbeats 8000000 in
theorem ref18_Check (pc pv pb pu : Value) (p : Pr) (u : Int) (w : World) (h : PrAt w pc pv pb pu p) (hT : TabR w) (hf : fewP p = true) :
    Calls Tryd.prog 18 #[.agg #[pc, pv, pb, pu], .int .i64 u] w fun e w' => e = .returned (.tuple #[.int .i64 (chkP p u).1, .int .i64 (chkP p u).2]) ∧ Below w.heap.size w w' := by
  have cp := @cell_past
  obtain ⟨⟨f0, f1, f2, f3⟩, _, _, f4⟩ := fewP_is hf
  have hun := h.us
  have HO := Lib.hid (fun (x : Ins) W (hb : Below w.heap.size w W) => ref18_One pc pv pb pu p u x.1 x.2.1 x.2.2 W (h.below hb) hf)
  obtain ⟨s3, t3, rfl⟩ := row_get h.us
  clear h hT
  by_cases hu0 : u < 0
  · have hs := Lib.hid (chkP_u (p := p) (u := u) (by omega))
    generalize p.units.length = n3 at *
    have q0 : (u < 0) = True := eq_true hu0
    clear hu0
    go_enter Tryd.func18, Tryd.ntmps18
    go_wp2_with fail
    go_returns
    exact ⟨by rw [hs.out]; rfl, by (repeat' (first | (with_reducible exact Below.refl _ _) | (with_reducible assumption) | (with_reducible refine below_drewN ?_ _) | (with_reducible refine Below.alloc ?_ ?_ _) | (with_reducible refine Below.drew ?_) | (with_reducible refine Below.setCell ?_ ?_ _) | go_size))⟩
  have q0 : (u < 0) = False := eq_false hu0
  by_cases hu1 : u < p.units.length
  case neg =>
    have hs := Lib.hid (chkP_u (p := p) (u := u) (by omega))
    generalize p.units.length = n3 at *
    have q1 : ((n3 : Int) ≤ u) = True := eq_true (by omega)
    have q2 : (u < (n3 : Int)) = False := eq_false (by omega)
    clear hu0 hu1
    go_enter Tryd.func18, Tryd.ntmps18
    go_wp2_with fail
    go_returns
    exact ⟨by rw [hs.out]; rfl, by (repeat' (first | (with_reducible exact Below.refl _ _) | (with_reducible assumption) | (with_reducible refine below_drewN ?_ _) | (with_reducible refine Below.alloc ?_ ?_ _) | (with_reducible refine Below.drew ?_) | (with_reducible refine Below.setCell ?_ ?_ _) | go_size))⟩
  have q1 : ((p.units.length : Int) ≤ u) = False := eq_false (by omega)
  have q2 : (u < (p.units.length : Int)) = True := eq_true (by omega)
  have hc := chkP_is (p := p) (u := u) (by omega)
  obtain ⟨i, rfl⟩ := Int.eq_ofNat_of_zero_le (show 0 ≤ u by omega)
  obtain ⟨y, hy⟩ := get_some (L := p.units) (n := i) (by omega)
  have huy : unAt p i = y := by unfold unAt; simp [List.getD, hy]
  rw [huy] at hc
  obtain ⟨b3, off3, rfl, hbw3, hc3⟩ := unit_at hun (k := i) (lt_of_get hy)
  obtain ⟨u1, u3, u4, c0, c1, c2, c3, c4, hU⟩ := hc3 i y hy
  have hyf := (fewU_is (f4 y (List.mem_of_getElem? hy))).2.2.2
  have hcode := hU.cs
  generalize y.code = L at *
  have HC := Lib.hid hc
  have hi3 : i < p.units.length := by omega
  clear hc hc3 hU hy huy hun f4
  generalize p.units.length = n3 at *
  obtain ⟨sc, tc, rfl⟩ := row_get hcode
  obtain ⟨N, hN⟩ : ∃ N, L.length = N := ⟨_, rfl⟩
  have HN := Lib.hid hN
  have HCd := Lib.hid hcode
  rw [hN] at c4 hyf HCd
  clear hcode hN hu0 hu1
  go_enter Tryd.func18, Tryd.ntmps18
  go_wp2_with fail
  go_loopw [7] (fun jj wr => ∃ k : Nat, k ≤ N ∧ jj = .int .i64 k ∧ Hid (∀ j, j < k → errAt p i L j = 0) ∧ Hid (Below (w.heap.size + 1) (w.alloc (.cells #[pc, pv, pb, .slice (some ⟨b3, off3, none⟩) n3 t3] 27)) wr)) (fun jj _ => N - (intOf jj).toNat)
  case atStart => exact ⟨0, by omega, rfl, Lib.hid (fun j hj => by omega), Lib.hid (Below.refl _ _)⟩
  case round =>
    obtain ⟨k, hk, rfl, hall, hBw⟩ := hrel
    have z0 : w.heap.size < wr.heap.size := by have := hBw.out.size; simp at this; omega
    have hB0 : Below w.heap.size w wr := Below.trans (by (repeat' (first | (with_reducible exact Below.refl _ _) | (with_reducible assumption) | (with_reducible refine below_drewN ?_ _) | (with_reducible refine Below.alloc ?_ ?_ _) | (with_reducible refine Below.drew ?_) | (with_reducible refine Below.setCell ?_ ?_ _) | go_size))) (hBw.out.mono (by omega))
    have bx := Boxed.new w [pc, pv, pb, .slice (some ⟨b3, off3, none⟩) n3 t3] 27 hBw.out
    have e0 := bx 0 _ rfl
    have e1 := bx 1 _ rfl
    have e2 := bx 2 _ rfl
    have e3 := bx 3 _ rfl
    clear bx
    by_cases hlt : k < N
    · obtain ⟨x, hx⟩ := get_some (L := L) (n := k) (by rw [HN.out]; exact hlt)
      have HX := Lib.hid hx
      obtain ⟨bc, offc, rfl, hbc, hcc⟩ := code_at HCd.out (k := k) (lt_of_get hx)
      obtain ⟨x0', x1', x2', _⟩ := hcc k x hx
      have x0 := (hB0.cell (p := ⟨bc, offc + k * 3, none⟩) hbc).trans x0'
      have x1 := (hB0.cell (p := ⟨bc, offc + k * 3 + 1, none⟩) hbc).trans x1'
      have x2 := (hB0.cell (p := ⟨bc, offc + k * 3 + 2, none⟩) hbc).trans x2'
      have HO1 := Lib.hid (HO.out x)
      have HJ := Lib.hid (fun W (hb : Below w.heap.size w W) (hz : 0 ≤ x.2.1) => ref18_Jump _ L k x W (HCd.out.below insR_stable hb) HX.out hz (by rw [HN.out]; exact hyf))
      have HE1 := Lib.hid (fun hh => errAt_one (p := p) (u := i) HX.out hh)
      have HE2 := Lib.hid (fun hh => errAt_jump (p := p) (u := i) HX.out hh)
      have HZ := Lib.hid (fun hh => oneP_zero (p := p) (u := i) (o := x.1) (a := x.2.1) (b := x.2.2) hh)
      obtain ⟨xo, xa, xb⟩ := x
      simp only at x0 x1 x2 HO1 HJ HE1 HE2 HZ
      clear hcc x0' x1' x2' hx
      have zc : bc < wr.heap.size := Nat.lt_of_lt_of_le hbc hB0.size
      go_wp2_with fail
      refine wp_region_held_drew (S := (fun w' => Below wr.heap.size wr w')) (by kernel_rfl) ?_ (fun hHeld => ?_)
      · (try dsimp only); first | assumption | exact Below.alloc hHeld hHeld.size _ | exact (Below.refl _ _).drew | exact Below.drew (Below.refl _ _) | exact Below_drewN _ _ _ | exact Below.refl _ _ | (trace_state; fail)
      refine wpAnyH_take (i := 0) (oi := { dst := some 30, op := Op.load 27 (Operand.tmp 2), type := 27, pos := _, after := #[], guard := none }) (v := ?_) rfl (by kernel_rfl) (by kernel_rfl) (by kernel_rfl) (fun _ _ _ h => h) (Or.inl ⟨by rfl, ?_⟩) (by assumption) ?_
      rotate_left
      · intro wt hSw; (try dsimp only at hSw); have e0 := cellB hSw e0 z0; have e1 := cellB hSw e1 z0; have e2 := cellB hSw e2 z0; have e3 := cellB hSw e3 z0; have x0 := cellB hSw x0 zc; have x1 := cellB hSw x1 zc; have x2 := cellB hSw x2 zc; first | (go_simp; done) | (go_simp; with_reducible rfl) | (trace_state; fail)
      try simp only [Act.put, List.setIfInBounds_toArray, List.set_cons_zero, List.set_cons_succ]
      refine wpAnyH_take (i := 1) (oi := { dst := some 31, op := Op.move (Operand.tmp 1), type := 3, pos := _, after := #[], guard := none }) (v := ?_) rfl (by kernel_rfl) (by kernel_rfl) (by kernel_rfl) (fun _ _ _ h => h) (Or.inl ⟨by rfl, ?_⟩) (by assumption) ?_
      rotate_left
      · intro wt hSw; (try dsimp only at hSw); have e0 := cellB hSw e0 z0; have e1 := cellB hSw e1 z0; have e2 := cellB hSw e2 z0; have e3 := cellB hSw e3 z0; have x0 := cellB hSw x0 zc; have x1 := cellB hSw x1 zc; have x2 := cellB hSw x2 zc; first | (go_simp; done) | (go_simp; with_reducible rfl) | (trace_state; fail)
      try simp only [Act.put, List.setIfInBounds_toArray, List.set_cons_zero, List.set_cons_succ]
      refine wpAnyH_take (i := 2) (oi := { dst := some 32, op := Op.move (Operand.tmp 6), type := 39, pos := _, after := #[], guard := none }) (v := ?_) rfl (by kernel_rfl) (by kernel_rfl) (by kernel_rfl) (fun _ _ _ h => h) (Or.inl ⟨by rfl, ?_⟩) (by assumption) ?_
      rotate_left
      · intro wt hSw; (try dsimp only at hSw); have e0 := cellB hSw e0 z0; have e1 := cellB hSw e1 z0; have e2 := cellB hSw e2 z0; have e3 := cellB hSw e3 z0; have x0 := cellB hSw x0 zc; have x1 := cellB hSw x1 zc; have x2 := cellB hSw x2 zc; first | (go_simp; done) | (go_simp; with_reducible rfl) | (trace_state; fail)
      try simp only [Act.put, List.setIfInBounds_toArray, List.set_cons_zero, List.set_cons_succ]
      refine wpAnyH_take (i := 3) (oi := { dst := some 33, op := Op.move (Operand.tmp 7), type := 3, pos := _, after := #[], guard := none }) (v := ?_) rfl (by kernel_rfl) (by kernel_rfl) (by kernel_rfl) (fun _ _ _ h => h) (Or.inl ⟨by rfl, ?_⟩) (by assumption) ?_
      rotate_left
      · intro wt hSw; (try dsimp only at hSw); have e0 := cellB hSw e0 z0; have e1 := cellB hSw e1 z0; have e2 := cellB hSw e2 z0; have e3 := cellB hSw e3 z0; have x0 := cellB hSw x0 zc; have x1 := cellB hSw x1 zc; have x2 := cellB hSw x2 zc; first | (go_simp; done) | (go_simp; with_reducible rfl) | (trace_state; fail)
      try simp only [Act.put, List.setIfInBounds_toArray, List.set_cons_zero, List.set_cons_succ]
      refine wpAnyH_take (i := 4) (oi := { dst := some 34, op := Op.indexAddr 39 (Operand.tmp 32) (Operand.tmp 33), type := 0, pos := _, after := #[{ on := 2, ground := Ground.data }, { on := 3, ground := Ground.data }], guard := none }) (v := ?_) rfl (by kernel_rfl) (by kernel_rfl) (by kernel_rfl) (fun _ _ _ h => h) (Or.inl ⟨by rfl, ?_⟩) (by assumption) ?_
      rotate_left
      · intro wt hSw; (try dsimp only at hSw); have e0 := cellB hSw e0 z0; have e1 := cellB hSw e1 z0; have e2 := cellB hSw e2 z0; have e3 := cellB hSw e3 z0; have x0 := cellB hSw x0 zc; have x1 := cellB hSw x1 zc; have x2 := cellB hSw x2 zc; first | (go_simp; done) | (go_simp; with_reducible rfl) | (trace_state; fail)
      try simp only [Act.put, List.setIfInBounds_toArray, List.set_cons_zero, List.set_cons_succ]
      refine wpAnyH_take (i := 5) (oi := { dst := some 35, op := Op.load 45 (Operand.tmp 34), type := 45, pos := _, after := #[{ on := 4, ground := Ground.data }], guard := none }) (v := ?_) rfl (by kernel_rfl) (by kernel_rfl) (by kernel_rfl) (fun _ _ _ h => h) (Or.inl ⟨by rfl, ?_⟩) (by assumption) ?_
      rotate_left
      · intro wt hSw; (try dsimp only at hSw); have e0 := cellB hSw e0 z0; have e1 := cellB hSw e1 z0; have e2 := cellB hSw e2 z0; have e3 := cellB hSw e3 z0; have x0 := cellB hSw x0 zc; have x1 := cellB hSw x1 zc; have x2 := cellB hSw x2 zc; first | (go_simp; done) | (go_simp; with_reducible rfl) | (trace_state; fail)
      try simp only [Act.put, List.setIfInBounds_toArray, List.set_cons_zero, List.set_cons_succ]
      refine wpAnyH_ready (rs := [6]) (by kernel_rfl) (by simp) ?_
      refine AllReadyH.cons (o := { dst := some 36, op := Op.call { callee := Callee.value (Operand.func 31), args := #[Operand.tmp 30, Operand.tmp 31, Operand.tmp 35], argTypes := #[27, 3, 45] }, type := 32, pos := _, after := #[{ on := 0, ground := Ground.data }, { on := 1, ground := Ground.data }, { on := 5, ground := Ground.data }], guard := none }) rfl (fun K hK => ?_) AllReadyH.nil
      go_simp
      refine (HO1.out _ (hB0.trans (hHeld.mono hB0.size))).mono ?_; rintro e w1 ⟨rfl, hb1⟩; have hHeld := hHeld.trans (hb1.mono hHeld.size); clear hb1
      go_wp2_with fail
      refine hK.out _ _ ?_ (fun hHeld => ?_)
      · (try dsimp only); first | assumption | exact Below.alloc hHeld hHeld.size _ | exact (Below.refl _ _).drew | exact Below.drew (Below.refl _ _) | exact Below_drewN _ _ _ | exact Below.refl _ _ | (trace_state; fail)
      clear hK K
      try simp only [Act.put, List.setIfInBounds_toArray, List.set_cons_zero, List.set_cons_succ]
      refine wpAnyH_take (i := 7) (oi := { dst := some 8, op := Op.assign (Operand.tmp 36), type := 32, pos := _, after := #[{ on := 6, ground := Ground.data }, { on := 6, ground := Ground.chain }, { on := 0, ground := Ground.phase }, { on := 1, ground := Ground.phase }, { on := 2, ground := Ground.phase }, { on := 3, ground := Ground.phase }, { on := 4, ground := Ground.phase }, { on := 5, ground := Ground.phase }, { on := 6, ground := Ground.phase }], guard := none }) (v := ?_) rfl (by kernel_rfl) (by kernel_rfl) (by kernel_rfl) (fun _ _ _ h => h) (Or.inl ⟨by rfl, ?_⟩) (by assumption) ?_
      rotate_left
      · intro wt hSw; (try dsimp only at hSw); have e0 := cellB hSw e0 z0; have e1 := cellB hSw e1 z0; have e2 := cellB hSw e2 z0; have e3 := cellB hSw e3 z0; have x0 := cellB hSw x0 zc; have x1 := cellB hSw x1 zc; have x2 := cellB hSw x2 zc; first | (go_simp; done) | (go_simp; with_reducible rfl) | (trace_state; fail)
      try simp only [Act.put, List.setIfInBounds_toArray, List.set_cons_zero, List.set_cons_succ]
      refine wpAnyH_done (by kernel_rfl) ?_ _
      have hb1 := hHeld
      clear hHeld
      by_cases g0 : oneP p i xo xa xb = 0
      · have HE := HE2.out g0
        have HJ := Lib.hid (fun W hb => HJ.out W hb (HZ.out g0))
        rw [g0]
        clear HE1 HE2 HZ
        go_wp2_with fail
        refine (HJ.out _ (hB0.trans (hb1.mono hB0.size))).mono ?_; rintro e w2 ⟨rfl, hb2⟩
        have hb2 := hb1.trans (hb2.mono hb1.size)
        generalize hj : jumpP L k xo xa = jv at *
        by_cases gj : jv = 0
        · subst gj
          have hs := Lib.hid (show ∀ j, j < k + 1 → errAt p i L j = 0 by
            intro j hjk
            by_cases hh : j = k
            · rw [hh]; exact HE
            · exact hall.out j (by omega))
          have hB2 := Lib.hid (Below.trans hBw.out (hb2.mono (by omega)))
          clear HE hall hj g0
          go_wp2_with fail
          go_roundw
          case rel => exact ⟨k + 1, by omega, by simp, hs, hB2⟩
          case measure => first | (simp [intOf]; done) | (simp [intOf]; omega)
        · have hs := Lib.hid (HC.out.trans (firstP_hit (by rw [HN.out]; exact hlt) hall.out (by rw [HE]; exact gj)))
          rw [HE] at hs
          have qj : (jv != 0) = true := by simpa using gj
          clear HE hall hj g0 gj
          go_wp2_with fail
          go_returns
          exact ⟨by rw [hs.out]; rfl, hB0.trans (hb2.mono hB0.size)⟩
      · have HE := HE1.out g0
        have hs := Lib.hid (HC.out.trans (firstP_hit (by rw [HN.out]; exact hlt) hall.out (by rw [HE]; exact g0)))
        rw [HE] at hs
        generalize oneP p i xo xa xb = ev at *
        have qj : (ev != 0) = true := by simpa using g0
        have qk : (ev == 0) = false := by simpa using g0
        clear HE hall g0 HE1 HE2 HZ HJ
        go_wp2_with fail
        go_returns
        exact ⟨by rw [hs.out]; rfl, hB0.trans (hb1.mono hB0.size)⟩
    · obtain rfl : k = N := by omega
      have hs := Lib.hid (HC.out.trans (firstP_none (by rw [HN.out]; exact hall.out)))
      clear hall
      go_wp2_with fail
      go_returns
      exact ⟨by rw [hs.out]; rfl, hB0⟩
end Go.Proofs.YtnkmnmlhjanplaaDoor

/- Layer 20: the law's awake. -/
namespace Go.Proofs.YtnkmnmlhjanplaaDoor
open Go.RowKit
set_option linter.unusedSimpArgs false
set_option linter.unusedVariables false
set_option maxHeartbeats 4000000 in
theorem law20_awake (w : World) : Calls Tryd.prog 6 #[] w fun e w' => e = .returned (.bool true) ∧ Below w.heap.size w w' := by
  obtain ⟨W0, hW0⟩ : ∃ W0, W0 = w.alloc (.cells #[.int .i64 31, .int .i64 3, .int .i64 0, .int .i64 34, .int .i64 0, .int .i64 0, .int .i64 32, .int .i64 1, .int .i64 0] 45) := ⟨_, rfl⟩
  have hb0 : Below w.heap.size w W0 := by rw [hW0]; exact (Below.refl _ _).alloc (Nat.le_refl _) _
  have hR : RowR 3 insR W0 (.slice (some ⟨w.heap.size, 0, none⟩) 3 3) [(31, 3, 0), (34, 0, 0), (32, 1, 0)] := by
    have hB := fun j u hu => Boxed.new w [.int .i64 31, .int .i64 3, .int .i64 0, .int .i64 34, .int .i64 0, .int .i64 0, .int .i64 32, .int .i64 1, .int .i64 0] 45 (W' := W0) (by rw [hW0]; exact Below.refl _ _) j u hu
    refine Or.inr ⟨w.heap.size, 0, 3, rfl, by simp, by simp, by unfold maxLen; omega, by rw [hW0]; simp, fun i x hx => ?_⟩
    have hi : i < 3 := lt_of_get hx
    have hI : ∀ z : Int, 0 ≤ z ∧ z ≤ 40 → I64 z := fun z hz => by unfold I64; omega
    rcases (show i = 0 ∨ i = 1 ∨ i = 2 by omega) with rfl | rfl | rfl
    · obtain rfl : ((31, 3, 0) : Ins) = x := by simpa using hx
      refine ⟨[.int .i64 31, .int .i64 3, .int .i64 0], rfl, fun j u hu => ?_, rfl, hI _ (by decide), hI _ (by decide), hI _ (by decide)⟩
      have hj : j < 3 := lt_of_get hu
      rcases (show j = 0 ∨ j = 1 ∨ j = 2 by omega) with rfl | rfl | rfl <;> exact hB _ u hu
    · obtain rfl : ((34, 0, 0) : Ins) = x := by simpa using hx
      refine ⟨[.int .i64 34, .int .i64 0, .int .i64 0], rfl, fun j u hu => ?_, rfl, hI _ (by decide), hI _ (by decide), hI _ (by decide)⟩
      have hj : j < 3 := lt_of_get hu
      rcases (show j = 0 ∨ j = 1 ∨ j = 2 by omega) with rfl | rfl | rfl <;> exact hB _ u hu
    · obtain rfl : ((32, 1, 0) : Ins) = x := by simpa using hx
      refine ⟨[.int .i64 32, .int .i64 1, .int .i64 0], rfl, fun j u hu => ?_, rfl, hI _ (by decide), hI _ (by decide), hI _ (by decide)⟩
      have hj : j < 3 := lt_of_get hu
      rcases (show j = 0 ∨ j = 1 ∨ j = 2 by omega) with rfl | rfl | rfl <;> exact hB _ u hu
  have H0 : Hid (Calls Tryd.prog 12 #[.slice (some ⟨w.heap.size, 0, none⟩) 3 3, .int .i64 0] W0 fun e w' => ∃ r, e = .returned r ∧ RowR 1 intR w' r [1, 3] ∧ Below W0.heap.size W0 w') :=
    Lib.hid (typing_Behind _ _ 0 (31, 3, 0) W0 hR rfl (by decide) (by decide) (by decide))
  have H2 : Hid (∀ W, Below W0.heap.size W0 W → Calls Tryd.prog 12 #[.slice (some ⟨w.heap.size, 0, none⟩) 3 3, .int .i64 2] W fun e w' => ∃ r, e = .returned r ∧ RowR 1 intR w' r [3, 4] ∧ Below W.heap.size W w') :=
    Lib.hid (fun W hb => typing_Behind _ _ 2 (32, 1, 0) W (hR.below insR_stable hb) rfl (by decide) (by decide) (by decide))
  have HW0 := Lib.hid hW0
  clear hR hW0
  go_enter Tryd.func6, Tryd.ntmps6
  go_wp2_with fail
  rw [← HW0.out]
  refine H0.out.mono ?_; rintro e W1 ⟨r, rfl, hr, hb1⟩
  obtain ⟨sr, cr, rfl⟩ : ∃ a cap, r = .slice a 2 cap := row_get hr
  obtain ⟨b, off, rfl, hbw, hc⟩ := ints_at hr (k := 1) (by decide)
  obtain ⟨c1, _⟩ := hc 1 3 rfl
  clear hc hr
  have y1 : b < W1.heap.size := hbw
  have hB1 := hb0.trans (hb1.mono hb0.size)
  go_wp2_with fail
  refine (H2.out _ hb1).mono ?_; rintro e W2 ⟨r2, rfl, hr2, hb2⟩
  obtain ⟨s2, cr2, rfl⟩ : ∃ a cap, r2 = .slice a 2 cap := row_get hr2
  have hB2 := hB1.trans (hb2.mono hB1.size)
  clear hr2
  go_wp2_with fail
  go_ret
  exact ⟨rfl, hB2⟩
end Go.Proofs.YtnkmnmlhjanplaaDoor
