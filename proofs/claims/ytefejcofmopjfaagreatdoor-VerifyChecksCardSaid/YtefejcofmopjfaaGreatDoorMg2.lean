/- Merged texts: StackStep, BhSort, BhMay, BhBehind, BhProg, StackPutN, BhNew, StackStepN, RefsJump, RefsJumpR, RefsCheck. -/
import Derived.Test.YtefejcofmopjfaaGreatDoorStackEff
import Derived.Test.YtefejcofmopjfaaGreatDoorMg1
import Derived.Test.YtefejcofmopjfaaGreatDoorBoxed
import Derived.Test.YtefejcofmopjfaaGreatDoorMg0
import Derived.Deep.RegionHeld3
import Derived.BigRegion
import Derived.Lib.SliceRun
import Derived.LoopTactic
import Derived.Test.YtefejcofmopjfaaGreatDoorStack
import Derived.Test.YtefejcofmopjfaaGreatDoorRefsOne
import Derived.Test.YtefejcofmopjfaaGreatDoorRefsRef
/- Layer 19: the stack behind an instruction. -/
namespace Go.Proofs.YtefejcofmopjfaaGreatDoor
open Go.RowKit
set_option linter.unusedSimpArgs false
set_option linter.unusedVariables false
theorem row_drop {w : World} {a : Option Addr} {n cap : Nat} {L : List Int} (h : RowR 1 intR w (.slice a n cap) L) {k : Nat} (hk : k ≤ L.length) : RowR 1 intR w (sliced a k n cap 1) (L.drop k) := by
  rcases h with ⟨a', cap', h1, rfl, hc⟩ | ⟨b, off, cap', h1, h2, h3, h4, h5, h6⟩
  · injection h1 with e1 e2 e3
    subst e1 e2 e3
    obtain rfl : k = 0 := by simpa using hk
    refine Or.inl ⟨_, cap, rfl, rfl, fun hh => ?_⟩
    by_cases h0 : cap = 0
    · exact h0
    · rw [if_neg h0] at hh
      exact hc (by simpa using hh)
  · injection h1 with e1 e2 e3
    subst e1 e2 e3
    by_cases hkn : k = L.length
    · subst hkn
      refine Or.inl ⟨_, cap - L.length, by unfold sliced; rw [Nat.sub_self], by simp, fun hh => ?_⟩
      split at hh <;> simp at hh
    · have hck : ¬ cap = k := by omega
      refine Or.inr ⟨b, off + k, cap - k, by unfold sliced; rw [if_neg hck]; simp [add_at], by simp; omega, by simp; omega, by omega, h5, fun i x hx => ?_⟩
      rw [List.getElem?_drop] at hx
      obtain ⟨C, g1, g2, g3⟩ := h6 (k + i) x hx
      exact ⟨C, g1, fun j u hu => by rw [show off + k + i * 1 + j = off + (k + i) * 1 + j by omega]; exact g2 j u hu, g3⟩
theorem row_take {w : World} {a : Option Addr} {n cap : Nat} {L : List Int} (h : RowR 1 intR w (.slice a n cap) L) {k : Nat} (hk : k ≤ L.length) : RowR 1 intR w (sliced a 0 k cap 1) (L.take k) := by
  rcases h with ⟨a', cap', h1, rfl, hc⟩ | ⟨b, off, cap', h1, h2, h3, h4, h5, h6⟩
  · injection h1 with e1 e2 e3
    subst e1 e2 e3
    obtain rfl : k = 0 := by simpa using hk
    refine Or.inl ⟨_, cap, rfl, rfl, fun hh => ?_⟩
    by_cases h0 : cap = 0
    · exact h0
    · rw [if_neg h0] at hh
      exact hc (by simpa using hh)
  · injection h1 with e1 e2 e3
    subst e1 e2 e3
    have hc0 : ¬ cap = 0 := by omega
    by_cases hkn : k = 0
    · subst hkn
      refine Or.inl ⟨_, cap, rfl, by simp, fun hh => ?_⟩
      rw [if_neg hc0] at hh; simp at hh
    · refine Or.inr ⟨b, off, cap, by unfold sliced; rw [if_neg hc0]; simp [add_at]; omega, by simp; omega, by simp; omega, h4, h5, fun i x hx => ?_⟩
      have hi : i < k := by have := lt_of_get hx; simp at this; omega
      rw [List.getElem?_take, if_pos hi] at hx
      exact h6 i x hx
def fitsT (tk top : List Int) : Bool := (List.range tk.length).all fun k => (tk.getD k 0 == 0 || top.getD k 0 == 0 || tk.getD k 0 == top.getD k 0)
def lvS (o : Int) (lv top : List Int) : List Int := if o = 27 then [top.getD 0 0, top.getD 0 0] else if o = 29 then [top.getD 1 0, top.getD 0 0] else lv
def lowN (tk st : List Int) : Nat := st.length - tk.length
/-- what is wrong, and the stack behind an instruction that takes tk and leaves lv -/
def stpE (o : Int) (tk lv st : List Int) : Int :=
  if st.length < tk.length ∨ (o = 34 ∧ 0 < st.length) then 9 else if fitsT tk (st.drop (lowN tk st)) = false then 10 else if 32 < lowN tk st + (lvS o lv (st.drop (lowN tk st))).length then 9 else 0
def stpS (o : Int) (tk lv st : List Int) : List Int := if stpE o tk lv st = 0 then st.take (lowN tk st) ++ lvS o lv (st.drop (lowN tk st)) else []
def stepE (p : Pr) (u o a b : Int) (st : List Int) : Int := if oneP p u o a b = 0 then stpE o (takesL p (unAt p u) o a b) (leavesL p (unAt p u) o a b) st else oneP p u o a b
def stepS (p : Pr) (u o a b : Int) (st : List Int) : List Int := if oneP p u o a b = 0 then stpS o (takesL p (unAt p u) o a b) (leavesL p (unAt p u) o a b) st else []
theorem stp_9 {o : Int} {tk lv st : List Int} (h : st.length < tk.length ∨ (o = 34 ∧ 0 < st.length)) : stpE o tk lv st = 9 ∧ stpS o tk lv st = [] := by
  have : stpE o tk lv st = 9 := if_pos h
  exact ⟨this, by unfold stpS; rw [this]; rfl⟩
theorem stp_10 {o : Int} {tk lv st : List Int} (h : ¬ (st.length < tk.length ∨ (o = 34 ∧ 0 < st.length))) (h2 : fitsT tk (st.drop (lowN tk st)) = false) : stpE o tk lv st = 10 ∧ stpS o tk lv st = [] := by
  have : stpE o tk lv st = 10 := by unfold stpE; rw [if_neg h, if_pos h2]
  exact ⟨this, by unfold stpS; rw [this]; rfl⟩
theorem stp_32 {o : Int} {tk lv st : List Int} (h : ¬ (st.length < tk.length ∨ (o = 34 ∧ 0 < st.length))) (h2 : fitsT tk (st.drop (lowN tk st)) = true) (h3 : 32 < lowN tk st + (lvS o lv (st.drop (lowN tk st))).length) : stpE o tk lv st = 9 ∧ stpS o tk lv st = [] := by
  have : stpE o tk lv st = 9 := by unfold stpE; rw [if_neg h, if_neg (by rw [h2]; decide), if_pos h3]
  exact ⟨this, by unfold stpS; rw [this]; rfl⟩
theorem stp_0 {o : Int} {tk lv st : List Int} (h : ¬ (st.length < tk.length ∨ (o = 34 ∧ 0 < st.length))) (h2 : fitsT tk (st.drop (lowN tk st)) = true) (h3 : ¬ 32 < lowN tk st + (lvS o lv (st.drop (lowN tk st))).length) : stpE o tk lv st = 0 ∧ stpS o tk lv st = st.take (lowN tk st) ++ lvS o lv (st.drop (lowN tk st)) := by
  have : stpE o tk lv st = 0 := by unfold stpE; rw [if_neg h, if_neg (by rw [h2]; decide), if_neg h3]
  exact ⟨this, by unfold stpS; rw [if_pos this]⟩
theorem fitsT_no {tk top : List Int} {k : Nat} {t y : Int} (ht : tk[k]? = some t) (hy : top[k]? = some y) (h0 : t ≠ 0) (h1 : y ≠ 0) (h2 : t ≠ y) : fitsT tk top = false := by
  rw [Bool.eq_false_iff]; intro h
  unfold fitsT at h; rw [List.all_eq_true] at h
  have := h k (List.mem_range.2 (lt_of_get ht))
  simp [List.getD, ht, hy, h0, h1, h2] at this
theorem fitsT_yes {tk top : List Int} (h : ∀ k, k < tk.length → tk.getD k 0 = 0 ∨ top.getD k 0 = 0 ∨ tk.getD k 0 = top.getD k 0) : fitsT tk top = true := by
  unfold fitsT; rw [List.all_eq_true]; intro k hk
  rcases h k (List.mem_range.1 hk) with e | e | e
  · rw [show (tk.getD k 0 == 0) = true by rw [e]; rfl]; rfl
  · rw [show (top.getD k 0 == 0) = true by rw [e]; rfl, Bool.or_true]; rfl
  · rw [show (tk.getD k 0 == top.getD k 0) = true by rw [e]; simp, Bool.or_true]
theorem tk_small {p : Pr} {x : Un} {o a b : Int} (hf : wideP p = true) : (takesL p x o a b).length ≤ 300 ∧ (leavesL p x o a b).length ≤ 2 := by
  have hP : (unAt p a).params.length ≤ 20 := by
    unfold unAt
    rcases getD_or p.units a.toNat ⟨[], [], 0, [], []⟩ with hm | hm
    · exact (fewU_is ((wideP_is hf).2.2.2 _ hm)).2.1
    · rw [hm]; simp
  constructor
  · unfold takesL tkV tkT tkB
    repeat' split
    all_goals first | (simp; done) | (simp; omega) | omega
  · unfold leavesL lvV lvT lvB
    repeat' split
    all_goals first | (simp; done) | (simp; omega) | omega
end Go.Proofs.YtefejcofmopjfaaGreatDoor

/- Layer 20: two numbers are sorted, and taken together where they are the same: the library's walks. -/
namespace Go.Proofs.YtefejcofmopjfaaGreatDoor
open Go.RowKit
set_option linter.unusedSimpArgs false
set_option linter.unusedVariables false
theorem bh_cell {w : World} {b : Nat} {C : Array Value} {t : TypeId} {fr : Nat × Nat} (h : w.heap[b]? = some (.cells C t fr)) (i : Nat) {v : Value} (hv : C[i]? = some v) : w.cell? ⟨b, i, none⟩ = some v := by
  unfold World.cell?
  rw [show (⟨b, i, none⟩ : Addr).block = b from rfl, h]
  simpa using hv
theorem bh_free {w : World} {b : Nat} {C : Array Value} {t : TypeId} (h : w.heap[b]? = some (.cells C t (0, 0))) (i : Nat) : w.frozen? ⟨b, i, none⟩ = false := by
  unfold World.frozen?
  rw [show (⟨b, i, none⟩ : Addr).block = b from rfl, h]
  simp
theorem bh_set {w : World} {g o : Nat} {C : Array Value} {t : TypeId} (h : w.heap[g]? = some (.cells C t)) (a : Value) : (w.setCell ⟨g, o, none⟩ a).heap[g]? = some (.cells (C.setIfInBounds o a) t) := by
  unfold World.setCell
  show (w.heap.modify g _)[g]? = _
  rw [Array.getElem?_modify, if_pos rfl, h]
  rfl
theorem bh_grown_set {w w1 : World} {g o : Nat} (h : w.grownBy w1 (some g)) (a : Value) : w.grownBy (w1.setCell ⟨g, o, none⟩ a) (some g) :=
  ⟨h.os, h.tape, h.output, by simpa [World.setCell] using h.size, fun k hk hne => (Below.heap_setCell _ _ _ _ (fun e => hne (by rw [show k = g from e]))).trans (h.block k hk hne)⟩
theorem bh_grown_below {w w1 w2 : World} {o : Option Nat} (h : w.grownBy w1 o) (hb : Below w1.heap.size w1 w2) : w.grownBy w2 o :=
  ⟨hb.os.trans h.os, hb.tape.trans h.tape, hb.output.trans h.output, Nat.le_trans h.size hb.size, fun k hk hne => (hb.block k (Nat.lt_of_lt_of_le hk h.size)).trans (h.block k hk hne)⟩
theorem cmp_Less (x y : Int) (w : World) : Calls Tryz.prog 129 #[.int .i64 x, .int .i64 y] w fun e w' => e = .returned (.bool (decide (x < y))) ∧ w = w' := by
  have q1 : (x != x) = false := by simp
  have q2 : (y != y) = false := by simp
  by_cases h : x < y
  · have q3 : (x < y) = True := eq_true h
    rw [decide_eq_true h]
    clear h
    go_enter Tryz.func129, Tryz.ntmps129
    go_wp2
    go_ret
    exact ⟨rfl, rfl⟩
  · have q3 : (x < y) = False := eq_false h
    rw [decide_eq_false h]
    clear h
    go_enter Tryz.func129, Tryz.ntmps129
    go_wp2
    go_ret
    exact ⟨rfl, rfl⟩
set_option maxRecDepth 100000 in
set_option maxHeartbeats 4000000 in
theorem ins2 (g : Nat) (a b : Int) (w : World) (hg : g < w.heap.size) (h : w.heap[g]? = some (.cells #[.int .i64 a, .int .i64 b] 3)) :
    Calls Tryz.prog 123 #[.slice (some ⟨g, 0, none⟩) 2 2, .int .i64 0, .int .i64 2] w fun e w' => (∃ u, e = .returned u) ∧ w.grownBy w' (some g) ∧ w'.heap[g]? = some (.cells #[.int .i64 (if b < a then b else a), .int .i64 (if b < a then a else b)] 3) := by
  by_cases hlt : b < a
  · rw [if_pos hlt, if_pos hlt]
    have hl : decide (b < a) = true := decide_eq_true hlt
    have hw0 : IntKind.i64.wrap 0 = 0 := by decide
    clear hlt
    have HH := Lib.hid h
    have c0 := bh_cell h 0 (v := .int .i64 a) rfl
    have c1 := bh_cell h 1 (v := .int .i64 b) rfl
    clear h
    go_enter Tryz.func123, Tryz.ntmps123
    go_wp2_with fail
    go_loopw [6] (fun i wr => (i = .int .i64 1 ∧ wr = w) ∨ (i = .int .i64 2 ∧ Hid (w.grownBy wr (some g) ∧ wr.heap[g]? = some (.cells #[.int .i64 b, .int .i64 a] 3)))) (fun i _ => 2 - (intOf i).toNat)
    case atStart => exact Or.inl ⟨rfl, rfl⟩
    case round =>
      rcases hrel with ⟨rfl, rfl⟩ | ⟨rfl, hP⟩
      · go_wp2_with fail
        go_loopw [7] (fun j wx => (j = .int .i64 1 ∧ wx = wr) ∨ (j = .int .i64 0 ∧ Hid (wr.grownBy wx (some g) ∧ wx.heap[g]? = some (.cells #[.int .i64 b, .int .i64 a] 3)))) (fun j _ => (intOf j).toNat)
        case atStart => exact Or.inl ⟨rfl, rfl⟩
        case round =>
          rcases hrel with ⟨rfl, rfl⟩ | ⟨rfl, hP⟩
          · go_wp2_with fail
            refine wp_region_held_drew (S := (fun w' => Below wr.heap.size wr w')) (by kernel_rfl) ?_ (fun hHeld => ?_)
            · (try dsimp only); first | assumption | exact Below.alloc hHeld hHeld.size _ | exact (Below.refl _ _).drew | exact Below.drew (Below.refl _ _) | exact Below_drewN _ _ _ | exact Below.refl _ _ | (trace_state; fail)
            refine wpAnyH_take (i := 0) (oi := { dst := some 16, op := Op.move (Operand.tmp 7), type := 3, pos := _, after := #[], guard := none }) (v := ?_) rfl (by kernel_rfl) (by kernel_rfl) (by kernel_rfl) (fun _ _ _ h => h) (Or.inl ⟨by rfl, ?_⟩) (by assumption) ?_
            rotate_left
            · intro wt hSw; (try dsimp only at hSw); have c0 := cellB hSw c0 hg; have c1 := cellB hSw c1 hg; first | (go_simp; done) | (go_simp; with_reducible rfl) | (trace_state; fail)
            try simp only [Act.put, List.setIfInBounds_toArray, List.set_cons_zero, List.set_cons_succ]
            refine wpAnyH_take (i := 1) (oi := { dst := some 17, op := Op.move (Operand.tmp 1), type := 3, pos := _, after := #[], guard := none }) (v := ?_) rfl (by kernel_rfl) (by kernel_rfl) (by kernel_rfl) (fun _ _ _ h => h) (Or.inl ⟨by rfl, ?_⟩) (by assumption) ?_
            rotate_left
            · intro wt hSw; (try dsimp only at hSw); have c0 := cellB hSw c0 hg; have c1 := cellB hSw c1 hg; first | (go_simp; done) | (go_simp; with_reducible rfl) | (trace_state; fail)
            try simp only [Act.put, List.setIfInBounds_toArray, List.set_cons_zero, List.set_cons_succ]
            refine wpAnyH_take (i := 2) (oi := { dst := some 18, op := Op.binOp BinOp.gtr 3 (Operand.tmp 16) (Operand.tmp 17) 3, type := 4, pos := _, after := #[{ on := 0, ground := Ground.data }, { on := 1, ground := Ground.data }], guard := none }) (v := ?_) rfl (by kernel_rfl) (by kernel_rfl) (by kernel_rfl) (fun _ _ _ h => h) (Or.inl ⟨by rfl, ?_⟩) (by assumption) ?_
            rotate_left
            · intro wt hSw; (try dsimp only at hSw); have c0 := cellB hSw c0 hg; have c1 := cellB hSw c1 hg; first | (go_simp; done) | (go_simp; with_reducible rfl) | (trace_state; fail)
            try simp only [Act.put, List.setIfInBounds_toArray, List.set_cons_zero, List.set_cons_succ]
            refine wpAnyH_take (i := 3) (oi := { dst := some 19, op := Op.move (Operand.tmp 18), type := 4, pos := _, after := #[{ on := 2, ground := Ground.data }], guard := none }) (v := ?_) rfl (by kernel_rfl) (by kernel_rfl) (by kernel_rfl) (fun _ _ _ h => h) (Or.inl ⟨by rfl, ?_⟩) (by assumption) ?_
            rotate_left
            · intro wt hSw; (try dsimp only at hSw); have c0 := cellB hSw c0 hg; have c1 := cellB hSw c1 hg; first | (go_simp; done) | (go_simp; with_reducible rfl) | (trace_state; fail)
            try simp only [Act.put, List.setIfInBounds_toArray, List.set_cons_zero, List.set_cons_succ]
            refine wpAnyH_take (i := 4) (oi := { dst := some 20, op := Op.move (Operand.tmp 0), type := 35, pos := _, after := #[{ on := 3, ground := Ground.guard }], guard := some (3, true) }) (v := ?_) rfl (by kernel_rfl) (by kernel_rfl) (by kernel_rfl) (fun _ _ _ h => h) (Or.inl ⟨by rfl, ?_⟩) (by assumption) ?_
            rotate_left
            · intro wt hSw; (try dsimp only at hSw); have c0 := cellB hSw c0 hg; have c1 := cellB hSw c1 hg; first | (go_simp; done) | (go_simp; with_reducible rfl) | (trace_state; fail)
            try simp only [Act.put, List.setIfInBounds_toArray, List.set_cons_zero, List.set_cons_succ]
            refine wpAnyH_take (i := 5) (oi := { dst := some 21, op := Op.move (Operand.tmp 7), type := 3, pos := _, after := #[{ on := 3, ground := Ground.guard }], guard := some (3, true) }) (v := ?_) rfl (by kernel_rfl) (by kernel_rfl) (by kernel_rfl) (fun _ _ _ h => h) (Or.inl ⟨by rfl, ?_⟩) (by assumption) ?_
            rotate_left
            · intro wt hSw; (try dsimp only at hSw); have c0 := cellB hSw c0 hg; have c1 := cellB hSw c1 hg; first | (go_simp; done) | (go_simp; with_reducible rfl) | (trace_state; fail)
            try simp only [Act.put, List.setIfInBounds_toArray, List.set_cons_zero, List.set_cons_succ]
            refine wpAnyH_take (i := 6) (oi := { dst := some 22, op := Op.indexAddr 35 (Operand.tmp 20) (Operand.tmp 21), type := 0, pos := _, after := #[{ on := 4, ground := Ground.data }, { on := 5, ground := Ground.data }, { on := 3, ground := Ground.guard }], guard := some (3, true) }) (v := ?_) rfl (by kernel_rfl) (by kernel_rfl) (by kernel_rfl) (fun _ _ _ h => h) (Or.inl ⟨by rfl, ?_⟩) (by assumption) ?_
            rotate_left
            · intro wt hSw; (try dsimp only at hSw); have c0 := cellB hSw c0 hg; have c1 := cellB hSw c1 hg; first | (go_simp; done) | (go_simp; with_reducible rfl) | (trace_state; fail)
            try simp only [Act.put, List.setIfInBounds_toArray, List.set_cons_zero, List.set_cons_succ]
            refine wpAnyH_take (i := 7) (oi := { dst := some 23, op := Op.load 3 (Operand.tmp 22), type := 3, pos := _, after := #[{ on := 6, ground := Ground.data }, { on := 3, ground := Ground.guard }], guard := some (3, true) }) (v := ?_) rfl (by kernel_rfl) (by kernel_rfl) (by kernel_rfl) (fun _ _ _ h => h) (Or.inl ⟨by rfl, ?_⟩) (by assumption) ?_
            rotate_left
            · intro wt hSw; (try dsimp only at hSw); have c0 := cellB hSw c0 hg; have c1 := cellB hSw c1 hg; first | (go_simp; done) | (go_simp; with_reducible rfl) | (trace_state; fail)
            try simp only [Act.put, List.setIfInBounds_toArray, List.set_cons_zero, List.set_cons_succ]
            refine wpAnyH_take (i := 8) (oi := { dst := some 24, op := Op.move (Operand.tmp 0), type := 35, pos := _, after := #[{ on := 3, ground := Ground.guard }], guard := some (3, true) }) (v := ?_) rfl (by kernel_rfl) (by kernel_rfl) (by kernel_rfl) (fun _ _ _ h => h) (Or.inl ⟨by rfl, ?_⟩) (by assumption) ?_
            rotate_left
            · intro wt hSw; (try dsimp only at hSw); have c0 := cellB hSw c0 hg; have c1 := cellB hSw c1 hg; first | (go_simp; done) | (go_simp; with_reducible rfl) | (trace_state; fail)
            try simp only [Act.put, List.setIfInBounds_toArray, List.set_cons_zero, List.set_cons_succ]
            refine wpAnyH_take (i := 9) (oi := { dst := some 25, op := Op.move (Operand.tmp 7), type := 3, pos := _, after := #[{ on := 3, ground := Ground.guard }], guard := some (3, true) }) (v := ?_) rfl (by kernel_rfl) (by kernel_rfl) (by kernel_rfl) (fun _ _ _ h => h) (Or.inl ⟨by rfl, ?_⟩) (by assumption) ?_
            rotate_left
            · intro wt hSw; (try dsimp only at hSw); have c0 := cellB hSw c0 hg; have c1 := cellB hSw c1 hg; first | (go_simp; done) | (go_simp; with_reducible rfl) | (trace_state; fail)
            try simp only [Act.put, List.setIfInBounds_toArray, List.set_cons_zero, List.set_cons_succ]
            refine wpAnyH_take (i := 10) (oi := { dst := some 26, op := Op.binOp BinOp.sub 3 (Operand.tmp 25) (Operand.const (Value.int IntKind.i64 1)) 3, type := 3, pos := _, after := #[{ on := 9, ground := Ground.data }, { on := 3, ground := Ground.guard }], guard := some (3, true) }) (v := ?_) rfl (by kernel_rfl) (by kernel_rfl) (by kernel_rfl) (fun _ _ _ h => h) (Or.inl ⟨by rfl, ?_⟩) (by assumption) ?_
            rotate_left
            · intro wt hSw; (try dsimp only at hSw); have c0 := cellB hSw c0 hg; have c1 := cellB hSw c1 hg; first | (go_simp; done) | (go_simp; with_reducible rfl) | (trace_state; fail)
            try simp only [Act.put, List.setIfInBounds_toArray, List.set_cons_zero, List.set_cons_succ]
            refine wpAnyH_take (i := 11) (oi := { dst := some 27, op := Op.indexAddr 35 (Operand.tmp 24) (Operand.tmp 26), type := 0, pos := _, after := #[{ on := 8, ground := Ground.data }, { on := 10, ground := Ground.data }, { on := 3, ground := Ground.guard }], guard := some (3, true) }) (v := ?_) rfl (by kernel_rfl) (by kernel_rfl) (by kernel_rfl) (fun _ _ _ h => h) (Or.inl ⟨by rfl, ?_⟩) (by assumption) ?_
            rotate_left
            · intro wt hSw; (try dsimp only at hSw); have c0 := cellB hSw c0 hg; have c1 := cellB hSw c1 hg; first | (go_simp; done) | (go_simp; with_reducible rfl) | (trace_state; fail)
            try simp only [Act.put, List.setIfInBounds_toArray, List.set_cons_zero, List.set_cons_succ]
            refine wpAnyH_take (i := 12) (oi := { dst := some 28, op := Op.load 3 (Operand.tmp 27), type := 3, pos := _, after := #[{ on := 11, ground := Ground.data }, { on := 3, ground := Ground.guard }], guard := some (3, true) }) (v := ?_) rfl (by kernel_rfl) (by kernel_rfl) (by kernel_rfl) (fun _ _ _ h => h) (Or.inl ⟨by rfl, ?_⟩) (by assumption) ?_
            rotate_left
            · intro wt hSw; (try dsimp only at hSw); have c0 := cellB hSw c0 hg; have c1 := cellB hSw c1 hg; first | (go_simp; done) | (go_simp; with_reducible rfl) | (trace_state; fail)
            try simp only [Act.put, List.setIfInBounds_toArray, List.set_cons_zero, List.set_cons_succ]
            refine wpAnyH_ready (rs := [13]) (by kernel_rfl) (by simp) ?_
            refine AllReadyH.cons (o := { dst := some 29, op := Op.call { callee := Callee.value (Operand.func 129), args := #[Operand.tmp 23, Operand.tmp 28], argTypes := #[3, 3] }, type := 4, pos := _, after := #[{ on := 7, ground := Ground.data }, { on := 12, ground := Ground.data }, { on := 3, ground := Ground.chain }, { on := 3, ground := Ground.guard }], guard := some (3, true) }) rfl (fun K hK => ?_) AllReadyH.nil
            go_simp
            refine (cmp_Less b a _).mono ?_; rintro e v1 ⟨rfl, rfl⟩
            go_wp2_with fail
            refine hK.out _ _ ?_ (fun hHeld => ?_)
            · (try dsimp only); first | assumption | exact Below.alloc hHeld hHeld.size _ | exact (Below.refl _ _).drew | exact Below.drew (Below.refl _ _) | exact Below_drewN _ _ _ | exact Below.refl _ _ | (trace_state; fail)
            clear hK K
            try simp only [Act.put, List.setIfInBounds_toArray, List.set_cons_zero, List.set_cons_succ]
            refine wpAnyH_take (i := 14) (oi := { dst := some 30, op := Op.pick (Operand.tmp 19) (Operand.tmp 29) (Operand.const (Value.bool false)), type := 4, pos := _, after := #[{ on := 3, ground := Ground.data }, { on := 13, ground := Ground.data }], guard := none }) (v := ?_) rfl (by kernel_rfl) (by kernel_rfl) (by kernel_rfl) (fun _ _ _ h => h) (Or.inl ⟨by rfl, ?_⟩) (by assumption) ?_
            rotate_left
            · intro wt hSw; (try dsimp only at hSw); have c0 := cellB hSw c0 hg; have c1 := cellB hSw c1 hg; first | (go_simp; done) | (go_simp; with_reducible rfl) | (trace_state; fail)
            try simp only [Act.put, List.setIfInBounds_toArray, List.set_cons_zero, List.set_cons_succ]
            refine wpAnyH_done (by kernel_rfl) ?_ _
            have f0 := bh_free HH.out 0
            have f1 := bh_free HH.out 1
            have HS := Lib.hid (bh_set (bh_set HH.out (o := 1) (.int .i64 a)) (o := 0) (.int .i64 b))
            have HGS := Lib.hid (bh_grown_set (o := 0) (bh_grown_set (o := 1) (World.grownBy.refl wr (some g)) (.int .i64 a)) (.int .i64 b))
            clear hHeld
            go_wp2_with fail
            go_region
            go_wp2_with fail
            go_roundw
            case rel => exact Or.inr ⟨rfl, Lib.hid ⟨⟨HGS.out.os, HGS.out.tape, HGS.out.output, HGS.out.size, HGS.out.block⟩, HS.out⟩⟩
            case measure => simp [intOf]
          · have hg' : g < wr.heap.size := Nat.lt_of_lt_of_le hg hP.out.1.size
            go_wp2_with fail
            refine wp_region_held_drew (S := (fun w' => Below wr.heap.size wr w')) (by kernel_rfl) ?_ (fun hHeld => ?_)
            · (try dsimp only); first | assumption | exact Below.alloc hHeld hHeld.size _ | exact (Below.refl _ _).drew | exact Below.drew (Below.refl _ _) | exact Below_drewN _ _ _ | exact Below.refl _ _ | (trace_state; fail)
            refine wpAnyH_take (i := 0) (oi := { dst := some 16, op := Op.move (Operand.tmp 7), type := 3, pos := _, after := #[], guard := none }) (v := ?_) rfl (by kernel_rfl) (by kernel_rfl) (by kernel_rfl) (fun _ _ _ h => h) (Or.inl ⟨by rfl, ?_⟩) (by assumption) ?_
            rotate_left
            · intro wt hSw; (try dsimp only at hSw); first | (go_simp; done) | (go_simp; with_reducible rfl) | (trace_state; fail)
            try simp only [Act.put, List.setIfInBounds_toArray, List.set_cons_zero, List.set_cons_succ]
            refine wpAnyH_take (i := 1) (oi := { dst := some 17, op := Op.move (Operand.tmp 1), type := 3, pos := _, after := #[], guard := none }) (v := ?_) rfl (by kernel_rfl) (by kernel_rfl) (by kernel_rfl) (fun _ _ _ h => h) (Or.inl ⟨by rfl, ?_⟩) (by assumption) ?_
            rotate_left
            · intro wt hSw; (try dsimp only at hSw); first | (go_simp; done) | (go_simp; with_reducible rfl) | (trace_state; fail)
            try simp only [Act.put, List.setIfInBounds_toArray, List.set_cons_zero, List.set_cons_succ]
            refine wpAnyH_take (i := 2) (oi := { dst := some 18, op := Op.binOp BinOp.gtr 3 (Operand.tmp 16) (Operand.tmp 17) 3, type := 4, pos := _, after := #[{ on := 0, ground := Ground.data }, { on := 1, ground := Ground.data }], guard := none }) (v := ?_) rfl (by kernel_rfl) (by kernel_rfl) (by kernel_rfl) (fun _ _ _ h => h) (Or.inl ⟨by rfl, ?_⟩) (by assumption) ?_
            rotate_left
            · intro wt hSw; (try dsimp only at hSw); first | (go_simp; done) | (go_simp; with_reducible rfl) | (trace_state; fail)
            try simp only [Act.put, List.setIfInBounds_toArray, List.set_cons_zero, List.set_cons_succ]
            refine wpAnyH_take (i := 3) (oi := { dst := some 19, op := Op.move (Operand.tmp 18), type := 4, pos := _, after := #[{ on := 2, ground := Ground.data }], guard := none }) (v := ?_) rfl (by kernel_rfl) (by kernel_rfl) (by kernel_rfl) (fun _ _ _ h => h) (Or.inl ⟨by rfl, ?_⟩) (by assumption) ?_
            rotate_left
            · intro wt hSw; (try dsimp only at hSw); first | (go_simp; done) | (go_simp; with_reducible rfl) | (trace_state; fail)
            try simp only [Act.put, List.setIfInBounds_toArray, List.set_cons_zero, List.set_cons_succ]
            refine wpAnyH_take (i := 4) (oi := { dst := some 20, op := Op.move (Operand.tmp 0), type := 35, pos := _, after := #[{ on := 3, ground := Ground.guard }], guard := some (3, true) }) (v := undef) rfl (by kernel_rfl) (by kernel_rfl) (by kernel_rfl) (fun _ _ _ h => h) (Or.inr ⟨by rfl, rfl⟩) (by assumption) ?_
            try simp only [Act.put, List.setIfInBounds_toArray, List.set_cons_zero, List.set_cons_succ]
            refine wpAnyH_take (i := 5) (oi := { dst := some 21, op := Op.move (Operand.tmp 7), type := 3, pos := _, after := #[{ on := 3, ground := Ground.guard }], guard := some (3, true) }) (v := undef) rfl (by kernel_rfl) (by kernel_rfl) (by kernel_rfl) (fun _ _ _ h => h) (Or.inr ⟨by rfl, rfl⟩) (by assumption) ?_
            try simp only [Act.put, List.setIfInBounds_toArray, List.set_cons_zero, List.set_cons_succ]
            refine wpAnyH_take (i := 6) (oi := { dst := some 22, op := Op.indexAddr 35 (Operand.tmp 20) (Operand.tmp 21), type := 0, pos := _, after := #[{ on := 4, ground := Ground.data }, { on := 5, ground := Ground.data }, { on := 3, ground := Ground.guard }], guard := some (3, true) }) (v := undef) rfl (by kernel_rfl) (by kernel_rfl) (by kernel_rfl) (fun _ _ _ h => h) (Or.inr ⟨by rfl, rfl⟩) (by assumption) ?_
            try simp only [Act.put, List.setIfInBounds_toArray, List.set_cons_zero, List.set_cons_succ]
            refine wpAnyH_take (i := 7) (oi := { dst := some 23, op := Op.load 3 (Operand.tmp 22), type := 3, pos := _, after := #[{ on := 6, ground := Ground.data }, { on := 3, ground := Ground.guard }], guard := some (3, true) }) (v := undef) rfl (by kernel_rfl) (by kernel_rfl) (by kernel_rfl) (fun _ _ _ h => h) (Or.inr ⟨by rfl, rfl⟩) (by assumption) ?_
            try simp only [Act.put, List.setIfInBounds_toArray, List.set_cons_zero, List.set_cons_succ]
            refine wpAnyH_take (i := 8) (oi := { dst := some 24, op := Op.move (Operand.tmp 0), type := 35, pos := _, after := #[{ on := 3, ground := Ground.guard }], guard := some (3, true) }) (v := undef) rfl (by kernel_rfl) (by kernel_rfl) (by kernel_rfl) (fun _ _ _ h => h) (Or.inr ⟨by rfl, rfl⟩) (by assumption) ?_
            try simp only [Act.put, List.setIfInBounds_toArray, List.set_cons_zero, List.set_cons_succ]
            refine wpAnyH_take (i := 9) (oi := { dst := some 25, op := Op.move (Operand.tmp 7), type := 3, pos := _, after := #[{ on := 3, ground := Ground.guard }], guard := some (3, true) }) (v := undef) rfl (by kernel_rfl) (by kernel_rfl) (by kernel_rfl) (fun _ _ _ h => h) (Or.inr ⟨by rfl, rfl⟩) (by assumption) ?_
            try simp only [Act.put, List.setIfInBounds_toArray, List.set_cons_zero, List.set_cons_succ]
            refine wpAnyH_take (i := 10) (oi := { dst := some 26, op := Op.binOp BinOp.sub 3 (Operand.tmp 25) (Operand.const (Value.int IntKind.i64 1)) 3, type := 3, pos := _, after := #[{ on := 9, ground := Ground.data }, { on := 3, ground := Ground.guard }], guard := some (3, true) }) (v := undef) rfl (by kernel_rfl) (by kernel_rfl) (by kernel_rfl) (fun _ _ _ h => h) (Or.inr ⟨by rfl, rfl⟩) (by assumption) ?_
            try simp only [Act.put, List.setIfInBounds_toArray, List.set_cons_zero, List.set_cons_succ]
            refine wpAnyH_take (i := 11) (oi := { dst := some 27, op := Op.indexAddr 35 (Operand.tmp 24) (Operand.tmp 26), type := 0, pos := _, after := #[{ on := 8, ground := Ground.data }, { on := 10, ground := Ground.data }, { on := 3, ground := Ground.guard }], guard := some (3, true) }) (v := undef) rfl (by kernel_rfl) (by kernel_rfl) (by kernel_rfl) (fun _ _ _ h => h) (Or.inr ⟨by rfl, rfl⟩) (by assumption) ?_
            try simp only [Act.put, List.setIfInBounds_toArray, List.set_cons_zero, List.set_cons_succ]
            refine wpAnyH_take (i := 12) (oi := { dst := some 28, op := Op.load 3 (Operand.tmp 27), type := 3, pos := _, after := #[{ on := 11, ground := Ground.data }, { on := 3, ground := Ground.guard }], guard := some (3, true) }) (v := undef) rfl (by kernel_rfl) (by kernel_rfl) (by kernel_rfl) (fun _ _ _ h => h) (Or.inr ⟨by rfl, rfl⟩) (by assumption) ?_
            try simp only [Act.put, List.setIfInBounds_toArray, List.set_cons_zero, List.set_cons_succ]
            refine wpAnyH_take (i := 13) (oi := { dst := some 29, op := Op.call { callee := Callee.value (Operand.func 129), args := #[Operand.tmp 23, Operand.tmp 28], argTypes := #[3, 3] }, type := 4, pos := _, after := #[{ on := 7, ground := Ground.data }, { on := 12, ground := Ground.data }, { on := 3, ground := Ground.chain }, { on := 3, ground := Ground.guard }], guard := some (3, true) }) (v := undef) rfl (by kernel_rfl) (by kernel_rfl) (by kernel_rfl) (fun _ _ _ h => h) (Or.inr ⟨by rfl, rfl⟩) (by assumption) ?_
            try simp only [Act.put, List.setIfInBounds_toArray, List.set_cons_zero, List.set_cons_succ]
            refine wpAnyH_take (i := 14) (oi := { dst := some 30, op := Op.pick (Operand.tmp 19) (Operand.tmp 29) (Operand.const (Value.bool false)), type := 4, pos := _, after := #[{ on := 3, ground := Ground.data }, { on := 13, ground := Ground.data }], guard := none }) (v := ?_) rfl (by kernel_rfl) (by kernel_rfl) (by kernel_rfl) (fun _ _ _ h => h) (Or.inl ⟨by rfl, ?_⟩) (by assumption) ?_
            rotate_left
            · intro wt hSw; (try dsimp only at hSw); first | (go_simp; done) | (go_simp; with_reducible rfl) | (trace_state; fail)
            try simp only [Act.put, List.setIfInBounds_toArray, List.set_cons_zero, List.set_cons_succ]
            refine wpAnyH_done (by kernel_rfl) ?_ _
            have hQ := Lib.hid (And.intro (bh_grown_below hP.out.1 hHeld) ((hHeld.block g hg').trans hP.out.2))
            go_wp2_with fail
            go_roundw
            case rel => exact Or.inr ⟨rfl, hQ⟩
            case measure => simp [intOf]
      · go_wp2_with fail
        go_end0
        exact ⟨⟨_, rfl⟩, hP.out⟩
  · rw [if_neg hlt, if_neg hlt]
    have hl : decide (b < a) = false := decide_eq_false hlt
    have hw0 : IntKind.i64.wrap 0 = 0 := by decide
    clear hlt
    have HH := Lib.hid h
    have c0 := bh_cell h 0 (v := .int .i64 a) rfl
    have c1 := bh_cell h 1 (v := .int .i64 b) rfl
    clear h
    go_enter Tryz.func123, Tryz.ntmps123
    go_wp2_with fail
    go_loopw [6] (fun i wr => (i = .int .i64 1 ∧ wr = w) ∨ (i = .int .i64 2 ∧ Hid (w.grownBy wr (some g) ∧ wr.heap[g]? = some (.cells #[.int .i64 a, .int .i64 b] 3)))) (fun i _ => 2 - (intOf i).toNat)
    case atStart => exact Or.inl ⟨rfl, rfl⟩
    case round =>
      rcases hrel with ⟨rfl, rfl⟩ | ⟨rfl, hP⟩
      · go_wp2_with fail
        go_loopw [7] (fun j wx => j = .int .i64 1 ∧ wx = wr) (fun j _ => (intOf j).toNat)
        case atStart => exact ⟨rfl, rfl⟩
        case round =>
          obtain ⟨rfl, rfl⟩ := hrel
          go_wp2_with fail
          refine wp_region_held_drew (S := (fun w' => Below wr.heap.size wr w')) (by kernel_rfl) ?_ (fun hHeld => ?_)
          · (try dsimp only); first | assumption | exact Below.alloc hHeld hHeld.size _ | exact (Below.refl _ _).drew | exact Below.drew (Below.refl _ _) | exact Below_drewN _ _ _ | exact Below.refl _ _ | (trace_state; fail)
          refine wpAnyH_take (i := 0) (oi := { dst := some 16, op := Op.move (Operand.tmp 7), type := 3, pos := _, after := #[], guard := none }) (v := ?_) rfl (by kernel_rfl) (by kernel_rfl) (by kernel_rfl) (fun _ _ _ h => h) (Or.inl ⟨by rfl, ?_⟩) (by assumption) ?_
          rotate_left
          · intro wt hSw; (try dsimp only at hSw); have c0 := cellB hSw c0 hg; have c1 := cellB hSw c1 hg; first | (go_simp; done) | (go_simp; with_reducible rfl) | (trace_state; fail)
          try simp only [Act.put, List.setIfInBounds_toArray, List.set_cons_zero, List.set_cons_succ]
          refine wpAnyH_take (i := 1) (oi := { dst := some 17, op := Op.move (Operand.tmp 1), type := 3, pos := _, after := #[], guard := none }) (v := ?_) rfl (by kernel_rfl) (by kernel_rfl) (by kernel_rfl) (fun _ _ _ h => h) (Or.inl ⟨by rfl, ?_⟩) (by assumption) ?_
          rotate_left
          · intro wt hSw; (try dsimp only at hSw); have c0 := cellB hSw c0 hg; have c1 := cellB hSw c1 hg; first | (go_simp; done) | (go_simp; with_reducible rfl) | (trace_state; fail)
          try simp only [Act.put, List.setIfInBounds_toArray, List.set_cons_zero, List.set_cons_succ]
          refine wpAnyH_take (i := 2) (oi := { dst := some 18, op := Op.binOp BinOp.gtr 3 (Operand.tmp 16) (Operand.tmp 17) 3, type := 4, pos := _, after := #[{ on := 0, ground := Ground.data }, { on := 1, ground := Ground.data }], guard := none }) (v := ?_) rfl (by kernel_rfl) (by kernel_rfl) (by kernel_rfl) (fun _ _ _ h => h) (Or.inl ⟨by rfl, ?_⟩) (by assumption) ?_
          rotate_left
          · intro wt hSw; (try dsimp only at hSw); have c0 := cellB hSw c0 hg; have c1 := cellB hSw c1 hg; first | (go_simp; done) | (go_simp; with_reducible rfl) | (trace_state; fail)
          try simp only [Act.put, List.setIfInBounds_toArray, List.set_cons_zero, List.set_cons_succ]
          refine wpAnyH_take (i := 3) (oi := { dst := some 19, op := Op.move (Operand.tmp 18), type := 4, pos := _, after := #[{ on := 2, ground := Ground.data }], guard := none }) (v := ?_) rfl (by kernel_rfl) (by kernel_rfl) (by kernel_rfl) (fun _ _ _ h => h) (Or.inl ⟨by rfl, ?_⟩) (by assumption) ?_
          rotate_left
          · intro wt hSw; (try dsimp only at hSw); have c0 := cellB hSw c0 hg; have c1 := cellB hSw c1 hg; first | (go_simp; done) | (go_simp; with_reducible rfl) | (trace_state; fail)
          try simp only [Act.put, List.setIfInBounds_toArray, List.set_cons_zero, List.set_cons_succ]
          refine wpAnyH_take (i := 4) (oi := { dst := some 20, op := Op.move (Operand.tmp 0), type := 35, pos := _, after := #[{ on := 3, ground := Ground.guard }], guard := some (3, true) }) (v := ?_) rfl (by kernel_rfl) (by kernel_rfl) (by kernel_rfl) (fun _ _ _ h => h) (Or.inl ⟨by rfl, ?_⟩) (by assumption) ?_
          rotate_left
          · intro wt hSw; (try dsimp only at hSw); have c0 := cellB hSw c0 hg; have c1 := cellB hSw c1 hg; first | (go_simp; done) | (go_simp; with_reducible rfl) | (trace_state; fail)
          try simp only [Act.put, List.setIfInBounds_toArray, List.set_cons_zero, List.set_cons_succ]
          refine wpAnyH_take (i := 5) (oi := { dst := some 21, op := Op.move (Operand.tmp 7), type := 3, pos := _, after := #[{ on := 3, ground := Ground.guard }], guard := some (3, true) }) (v := ?_) rfl (by kernel_rfl) (by kernel_rfl) (by kernel_rfl) (fun _ _ _ h => h) (Or.inl ⟨by rfl, ?_⟩) (by assumption) ?_
          rotate_left
          · intro wt hSw; (try dsimp only at hSw); have c0 := cellB hSw c0 hg; have c1 := cellB hSw c1 hg; first | (go_simp; done) | (go_simp; with_reducible rfl) | (trace_state; fail)
          try simp only [Act.put, List.setIfInBounds_toArray, List.set_cons_zero, List.set_cons_succ]
          refine wpAnyH_take (i := 6) (oi := { dst := some 22, op := Op.indexAddr 35 (Operand.tmp 20) (Operand.tmp 21), type := 0, pos := _, after := #[{ on := 4, ground := Ground.data }, { on := 5, ground := Ground.data }, { on := 3, ground := Ground.guard }], guard := some (3, true) }) (v := ?_) rfl (by kernel_rfl) (by kernel_rfl) (by kernel_rfl) (fun _ _ _ h => h) (Or.inl ⟨by rfl, ?_⟩) (by assumption) ?_
          rotate_left
          · intro wt hSw; (try dsimp only at hSw); have c0 := cellB hSw c0 hg; have c1 := cellB hSw c1 hg; first | (go_simp; done) | (go_simp; with_reducible rfl) | (trace_state; fail)
          try simp only [Act.put, List.setIfInBounds_toArray, List.set_cons_zero, List.set_cons_succ]
          refine wpAnyH_take (i := 7) (oi := { dst := some 23, op := Op.load 3 (Operand.tmp 22), type := 3, pos := _, after := #[{ on := 6, ground := Ground.data }, { on := 3, ground := Ground.guard }], guard := some (3, true) }) (v := ?_) rfl (by kernel_rfl) (by kernel_rfl) (by kernel_rfl) (fun _ _ _ h => h) (Or.inl ⟨by rfl, ?_⟩) (by assumption) ?_
          rotate_left
          · intro wt hSw; (try dsimp only at hSw); have c0 := cellB hSw c0 hg; have c1 := cellB hSw c1 hg; first | (go_simp; done) | (go_simp; with_reducible rfl) | (trace_state; fail)
          try simp only [Act.put, List.setIfInBounds_toArray, List.set_cons_zero, List.set_cons_succ]
          refine wpAnyH_take (i := 8) (oi := { dst := some 24, op := Op.move (Operand.tmp 0), type := 35, pos := _, after := #[{ on := 3, ground := Ground.guard }], guard := some (3, true) }) (v := ?_) rfl (by kernel_rfl) (by kernel_rfl) (by kernel_rfl) (fun _ _ _ h => h) (Or.inl ⟨by rfl, ?_⟩) (by assumption) ?_
          rotate_left
          · intro wt hSw; (try dsimp only at hSw); have c0 := cellB hSw c0 hg; have c1 := cellB hSw c1 hg; first | (go_simp; done) | (go_simp; with_reducible rfl) | (trace_state; fail)
          try simp only [Act.put, List.setIfInBounds_toArray, List.set_cons_zero, List.set_cons_succ]
          refine wpAnyH_take (i := 9) (oi := { dst := some 25, op := Op.move (Operand.tmp 7), type := 3, pos := _, after := #[{ on := 3, ground := Ground.guard }], guard := some (3, true) }) (v := ?_) rfl (by kernel_rfl) (by kernel_rfl) (by kernel_rfl) (fun _ _ _ h => h) (Or.inl ⟨by rfl, ?_⟩) (by assumption) ?_
          rotate_left
          · intro wt hSw; (try dsimp only at hSw); have c0 := cellB hSw c0 hg; have c1 := cellB hSw c1 hg; first | (go_simp; done) | (go_simp; with_reducible rfl) | (trace_state; fail)
          try simp only [Act.put, List.setIfInBounds_toArray, List.set_cons_zero, List.set_cons_succ]
          refine wpAnyH_take (i := 10) (oi := { dst := some 26, op := Op.binOp BinOp.sub 3 (Operand.tmp 25) (Operand.const (Value.int IntKind.i64 1)) 3, type := 3, pos := _, after := #[{ on := 9, ground := Ground.data }, { on := 3, ground := Ground.guard }], guard := some (3, true) }) (v := ?_) rfl (by kernel_rfl) (by kernel_rfl) (by kernel_rfl) (fun _ _ _ h => h) (Or.inl ⟨by rfl, ?_⟩) (by assumption) ?_
          rotate_left
          · intro wt hSw; (try dsimp only at hSw); have c0 := cellB hSw c0 hg; have c1 := cellB hSw c1 hg; first | (go_simp; done) | (go_simp; with_reducible rfl) | (trace_state; fail)
          try simp only [Act.put, List.setIfInBounds_toArray, List.set_cons_zero, List.set_cons_succ]
          refine wpAnyH_take (i := 11) (oi := { dst := some 27, op := Op.indexAddr 35 (Operand.tmp 24) (Operand.tmp 26), type := 0, pos := _, after := #[{ on := 8, ground := Ground.data }, { on := 10, ground := Ground.data }, { on := 3, ground := Ground.guard }], guard := some (3, true) }) (v := ?_) rfl (by kernel_rfl) (by kernel_rfl) (by kernel_rfl) (fun _ _ _ h => h) (Or.inl ⟨by rfl, ?_⟩) (by assumption) ?_
          rotate_left
          · intro wt hSw; (try dsimp only at hSw); have c0 := cellB hSw c0 hg; have c1 := cellB hSw c1 hg; first | (go_simp; done) | (go_simp; with_reducible rfl) | (trace_state; fail)
          try simp only [Act.put, List.setIfInBounds_toArray, List.set_cons_zero, List.set_cons_succ]
          refine wpAnyH_take (i := 12) (oi := { dst := some 28, op := Op.load 3 (Operand.tmp 27), type := 3, pos := _, after := #[{ on := 11, ground := Ground.data }, { on := 3, ground := Ground.guard }], guard := some (3, true) }) (v := ?_) rfl (by kernel_rfl) (by kernel_rfl) (by kernel_rfl) (fun _ _ _ h => h) (Or.inl ⟨by rfl, ?_⟩) (by assumption) ?_
          rotate_left
          · intro wt hSw; (try dsimp only at hSw); have c0 := cellB hSw c0 hg; have c1 := cellB hSw c1 hg; first | (go_simp; done) | (go_simp; with_reducible rfl) | (trace_state; fail)
          try simp only [Act.put, List.setIfInBounds_toArray, List.set_cons_zero, List.set_cons_succ]
          refine wpAnyH_ready (rs := [13]) (by kernel_rfl) (by simp) ?_
          refine AllReadyH.cons (o := { dst := some 29, op := Op.call { callee := Callee.value (Operand.func 129), args := #[Operand.tmp 23, Operand.tmp 28], argTypes := #[3, 3] }, type := 4, pos := _, after := #[{ on := 7, ground := Ground.data }, { on := 12, ground := Ground.data }, { on := 3, ground := Ground.chain }, { on := 3, ground := Ground.guard }], guard := some (3, true) }) rfl (fun K hK => ?_) AllReadyH.nil
          go_simp
          refine (cmp_Less b a _).mono ?_; rintro e v1 ⟨rfl, rfl⟩
          go_wp2_with fail
          refine hK.out _ _ ?_ (fun hHeld => ?_)
          · (try dsimp only); first | assumption | exact Below.alloc hHeld hHeld.size _ | exact (Below.refl _ _).drew | exact Below.drew (Below.refl _ _) | exact Below_drewN _ _ _ | exact Below.refl _ _ | (trace_state; fail)
          clear hK K
          try simp only [Act.put, List.setIfInBounds_toArray, List.set_cons_zero, List.set_cons_succ]
          refine wpAnyH_take (i := 14) (oi := { dst := some 30, op := Op.pick (Operand.tmp 19) (Operand.tmp 29) (Operand.const (Value.bool false)), type := 4, pos := _, after := #[{ on := 3, ground := Ground.data }, { on := 13, ground := Ground.data }], guard := none }) (v := ?_) rfl (by kernel_rfl) (by kernel_rfl) (by kernel_rfl) (fun _ _ _ h => h) (Or.inl ⟨by rfl, ?_⟩) (by assumption) ?_
          rotate_left
          · intro wt hSw; (try dsimp only at hSw); have c0 := cellB hSw c0 hg; have c1 := cellB hSw c1 hg; first | (go_simp; done) | (go_simp; with_reducible rfl) | (trace_state; fail)
          try simp only [Act.put, List.setIfInBounds_toArray, List.set_cons_zero, List.set_cons_succ]
          refine wpAnyH_done (by kernel_rfl) ?_ _
          have hQ := Lib.hid (And.intro (bh_grown_below (World.grownBy.refl _ (some g)) hHeld) ((hHeld.block g hg).trans HH.out))
          go_wp2_with fail
          go_roundw
          case rel => exact Or.inr ⟨rfl, hQ⟩
          case measure => simp [intOf]
      · go_wp2_with fail
        go_end0
        exact ⟨⟨_, rfl⟩, hP.out⟩
set_option maxRecDepth 100000 in
set_option maxHeartbeats 4000000 in
theorem pdq2 (g : Nat) (a b z : Int) (w : World) (hg : g < w.heap.size) (h : w.heap[g]? = some (.cells #[.int .i64 a, .int .i64 b] 3)) :
    Calls Tryz.prog 106 #[.slice (some ⟨g, 0, none⟩) 2 2, .int .i64 0, .int .i64 2, .int .i64 z] w fun e w' => (∃ u, e = .returned u) ∧ w.grownBy w' (some g) ∧ w'.heap[g]? = some (.cells #[.int .i64 (if b < a then b else a), .int .i64 (if b < a then a else b)] 3) := by
  have HI := Lib.hid (ins2 g a b w hg h)
  generalize (if b < a then b else a) = x at *
  generalize (if b < a then a else b) = y at *
  clear h
  have hw2 : IntKind.i64.wrap 2 = 2 := by decide
  go_enter Tryz.func106, Tryz.ntmps106
  go_wp2_with fail
  go_loopw [1, 2] (fun x1 x2 wr => x1 = .int .i64 0 ∧ x2 = .int .i64 2 ∧ wr = w) (fun _ _ _ => 0)
  case atStart => exact ⟨rfl, rfl, rfl⟩
  case round =>
    obtain ⟨rfl, rfl, rfl⟩ := hrel
    go_wp2_with fail
    refine HI.out.mono ?_; rintro e w1 ⟨⟨u, rfl⟩, hQ1, hQ2⟩
    have HQ := Lib.hid (And.intro hQ1 hQ2)
    clear hQ1 hQ2 HI
    go_wp2_with fail
    go_returns
    exact ⟨⟨_, rfl⟩, HQ.out.1, HQ.out.2⟩
set_option maxRecDepth 100000 in
set_option maxHeartbeats 4000000 in
theorem sort2 (g : Nat) (a b : Int) (w : World) (hg : g < w.heap.size) (h : w.heap[g]? = some (.cells #[.int .i64 a, .int .i64 b] 3)) :
    Calls Tryz.prog 82 #[.slice (some ⟨g, 0, none⟩) 2 2] w fun e w' => (∃ u, e = .returned u) ∧ w.grownBy w' (some g) ∧ w'.heap[g]? = some (.cells #[.int .i64 (if b < a then b else a), .int .i64 (if b < a then a else b)] 3) := by
  have HI := Lib.hid (fun z => pdq2 g a b z w hg h)
  generalize (if b < a then b else a) = x at *
  generalize (if b < a then a else b) = y at *
  clear h
  go_enter Tryz.func82, Tryz.ntmps82
  go_wp2_with (first | (go_at_call 106; refine (HI.out _).mono ?_; rintro e w1 ⟨⟨u, rfl⟩, hQ1, hQ2⟩; have HQ := Lib.hid (And.intro hQ1 hQ2); clear hQ1 hQ2 HI) | go_in | fail)
  first | (go_end0; done) | skip
  go_end0
  exact ⟨⟨_, rfl⟩, HQ.out.1, HQ.out.2⟩
theorem bh_row {w : World} {b : Nat} {z : Int} (h : w.cell? ⟨b, 0, none⟩ = some (.int .i64 z)) (hz : I64 z) : RowR 1 intR w (.slice (some ⟨b, 0, none⟩) 1 2) [z] :=
  Or.inr ⟨b, 0, 2, rfl, by simp, by simp, by unfold maxLen; omega, World.block_lt_of_cell? w _ h, fun i x hx => by
    have hi : i < 1 := lt_of_get hx
    obtain rfl : i = 0 := by omega
    obtain rfl : z = x := by simpa using hx
    refine ⟨[.int .i64 z], rfl, fun j u hu => ?_, rfl, hz⟩
    have hj : j < 1 := lt_of_get hu
    obtain rfl : j = 0 := by omega
    obtain rfl : Value.int .i64 z = u := by simpa using hu
    exact h⟩
set_option maxRecDepth 100000 in
set_option maxHeartbeats 4000000 in
theorem compact2 (g : Nat) (x y : Int) (w : World) (hg : g < w.heap.size) (h : w.heap[g]? = some (.cells #[.int .i64 x, .int .i64 y] 3)) (hx : I64 x) (hy : I64 y) :
    Calls Tryz.prog 83 #[.slice (some ⟨g, 0, none⟩) 2 2] w fun e w' => ∃ r, e = .returned r ∧ RowR 1 intR w' r (if x = y then [x] else [x, y]) ∧ w.grownBy w' (some g) := by
  have HH := Lib.hid h
  have c0 := bh_cell h 0 (v := .int .i64 x) rfl
  have c1 := bh_cell h 1 (v := .int .i64 y) rfl
  have f1 := bh_free h 1
  have hw0 : IntKind.i64.wrap 0 = 0 := by decide
  have HX := Lib.hid (And.intro hx hy)
  have hzero : ∀ w, (zeroValue 3).run Tryz.prog w = .ok (.int .i64 0) w := fun w => by first | rfl | kernel_rfl | (simp [zeroValue]; rfl)
  clear h hx hy
  by_cases hxy : x = y
  · have q : (y == x) = true := by simp [hxy]
    rw [if_pos hxy]
    clear hxy
    go_enter Tryz.func83, Tryz.ntmps83
    go_wp2_with fail
    go_loopw [3] (fun j wr => j = .int .i64 1 ∧ wr = w) (fun _ _ => 0)
    case atStart => exact ⟨rfl, rfl⟩
    case round =>
      obtain ⟨rfl, rfl⟩ := hrel
      go_wp2_with fail
      go_quiet (fail)
      go_wp2_with fail
      go_loopw [3, 5] (fun a3 a5 wx => a3 = .int .i64 1 ∧ a5 = .int .i64 1 ∧ ∃ m, wx = wr.drewN m) (fun _ _ _ => 0)
      case atStart => exact ⟨rfl, rfl, _, rfl⟩
      case round =>
        obtain ⟨rfl, rfl, m, rfl⟩ := hrel
        have hcl : ∀ ty, (Builtin.clear_ #[35] ty #[.slice (some ⟨g, 1, none⟩) 1 1]).run Tryz.prog (wr.drewN m) = .ok (.tuple #[]) ((wr.drewN m).setCells g 1 [.int .i64 0]) := fun ty => Lib.run_clear_slice (wr.drewN m) 35 3 ty (.int .i64 0) Tryz.underlying35 hzero rfl rfl g 1 1 1 (by omega) (fun j hj => by obtain rfl : j = 0 := (by omega); exact (by rw [show (wr.drewN m).cell? ⟨g, 1 + 0, none⟩ = wr.cell? ⟨g, 1, none⟩ from rfl, c1]; rfl)) (fun j hj => by obtain rfl : j = 0 := (by omega); exact f1)
        have hc0 := bh_cell (bh_set HH.out (o := 1) (.int .i64 0)) 0 (v := .int .i64 x) rfl
        have hrow := Lib.hid (show RowR 1 intR ((wr.drewN m).setCells g 1 [.int .i64 0]) (.slice (some ⟨g, 0, none⟩) 1 2) [x] from bh_row hc0 HX.out.1)
        have hG := Lib.hid (show wr.grownBy ((wr.drewN m).setCells g 1 [.int .i64 0]) (some g) from bh_grown_set (bh_grown_below (World.grownBy.refl wr (some g)) (Below_drewN wr.heap.size wr m)) (.int .i64 0))
        go_wp2_with fail
        go_ret
        exact ⟨_, rfl, hrow.out, hG.out⟩
  · have q : (y == x) = false := by simp; omega
    rw [if_neg hxy]
    clear hxy
    go_enter Tryz.func83, Tryz.ntmps83
    go_wp2_with fail
    go_loopw [3] (fun j wr => (j = .int .i64 1 ∨ j = .int .i64 2) ∧ ∃ m, wr = w.drewN m) (fun j _ => 2 - (intOf j).toNat)
    case atStart => exact ⟨Or.inl rfl, 0, rfl⟩
    case round =>
      obtain ⟨rfl | rfl, m, rfl⟩ := hrel
      · go_wp2_with fail
        go_quiet (fail)
        go_wp2_with fail
        go_roundw
        case rel => exact ⟨Or.inr rfl, _, rfl⟩
        case measure => simp [intOf]
      · have hrow := Lib.hid (row_cells2 (w := w.drewN m) c0 c1 HX.out.1 HX.out.2)
        have hG := Lib.hid (bh_grown_below (World.grownBy.refl w (some g)) (Below_drewN w.heap.size w m))
        go_wp2_with fail
        go_ret
        exact ⟨_, rfl, hrow.out, hG.out⟩
end Go.Proofs.YtefejcofmopjfaaGreatDoor

/- Layer 20: where one may come: the answer's, by each place; the program's. -/
namespace Go.Proofs.YtefejcofmopjfaaGreatDoor
open Go.RowKit
set_option linter.unusedSimpArgs false
set_option linter.unusedVariables false
theorem bh_get {w : World} {v : Value} {L : List Ins} (hv : RowR 3 insR w v L) : ∃ a cap, v = .slice a L.length cap := row_get hv
theorem bh_at {w : World} {a : Option Addr} {n cap : Nat} {L : List Ins} (hv : RowR 3 insR w (.slice a n cap) L) {k : Nat} (hk : k < L.length) : ∃ b off, a = some ⟨b, off, none⟩ ∧ b < w.heap.size ∧ ∀ i x, L[i]? = some x → w.cell? ⟨b, off + i * 3, none⟩ = some (.int .i64 x.1) ∧ w.cell? ⟨b, off + i * 3 + 1, none⟩ = some (.int .i64 x.2.1) ∧ w.cell? ⟨b, off + i * 3 + 2, none⟩ = some (.int .i64 x.2.2) ∧ I64 x.1 ∧ I64 x.2.1 ∧ I64 x.2.2 := by
  rcases hv with ⟨a, cap, h, rfl, _⟩ | ⟨b, off, cap, h1, _, _, _, h5, h6⟩
  · simp at hk
  · have e : a = some ⟨b, off, none⟩ := by injection h1
    exact ⟨b, off, e, h5, fun i x hx => ins_cells h6 hx⟩
def mayP (x : Ins) (k : Nat) (t : Nat) : Bool :=
  if x.1 = 30 then decide ((t : Int) = x.2.1) else if x.1 = 31 then decide ((t : Int) = k + 1 ∨ (t : Int) = x.2.1) else if x.1 = 32 then decide (k < t ∧ (t : Int) ≤ k + 1 + x.2.1) else if x.1 = 34 then false else decide ((t : Int) = k + 1)
def mayL (x : Ins) (k n : Nat) : List Int := ((List.range n).filter (mayP x k)).map Int.ofNat
theorem mayL_succ (x : Ins) (k n : Nat) : mayL x k (n + 1) = mayL x k n ++ (if mayP x k n = true then [(n : Int)] else []) := by
  unfold mayL
  rw [List.range_succ, List.filter_append, List.map_append]
  congr 1
  by_cases h : mayP x k n = true
  · simp [h]
  · simp [h]
theorem mayL_len (x : Ins) (k n : Nat) : (mayL x k n).length ≤ n := by
  unfold mayL
  rw [List.length_map]
  exact Nat.le_trans (List.length_filter_le _ _) (by simp)
theorem mayL_I64 (x : Ins) (k n : Nat) (hn : n ≤ 70000) : ∀ z ∈ mayL x k n, I64 z := by
  intro z hz
  obtain ⟨t, ht, rfl⟩ := List.mem_map.1 hz
  have := List.mem_range.1 (List.mem_filter.1 ht).1
  unfold I64
  show -9223372036854775808 ≤ (t : Int) ∧ (t : Int) ≤ 9223372036854775807
  omega
set_option maxHeartbeats 4000000 in
theorem ref20_May (v : Value) (L : List Ins) (k t : Nat) (x : Ins) (w : World) (hv : RowR 3 insR w v L) (hx : L[k]? = some x) (hk : k ≤ 300) (ht : t ≤ 70000) (hA : 0 ≤ x.2.1 ∧ x.2.1 ≤ 65535) :
    Calls Tryz.prog 29 #[v, .int .i64 k, .int .i64 t] w fun e w' => e = .returned (.bool (mayP x k t)) ∧ Below w.heap.size w w' := by
  have hkl := lt_of_get hx
  obtain ⟨sa, ca, rfl⟩ := bh_get hv
  obtain ⟨b, off, rfl, hbw, hc⟩ := bh_at hv hkl
  obtain ⟨c0, c1, c2, _⟩ := hc k x hx
  have HD := Lib.hid (show mayP x k t = (if x.1 = 30 then decide ((t : Int) = x.2.1) else if x.1 = 31 then decide ((t : Int) = k + 1 ∨ (t : Int) = x.2.1) else if x.1 = 32 then decide (k < t ∧ (t : Int) ≤ k + 1 + x.2.1) else if x.1 = 34 then false else decide ((t : Int) = k + 1)) from rfl)
  clear hc hx hv
  generalize hn : L.length = n at *
  generalize mayP x k t = res at *
  obtain ⟨o, A, bb⟩ := x
  dsimp only at c0 c1 c2 HD hA
  have hw1 : IntKind.i64.wrap ((k : Int) + 1) = (k : Int) + 1 := IntWalk.i64_in _ (by omega)
  have hw2 : IntKind.i64.wrap ((k : Int) + 1 + A) = (k : Int) + 1 + A := IntWalk.i64_in _ (by omega)
  clear hn
  have hBB : Below w.heap.size w (w.alloc (.cells #[.int .i64 o, .int .i64 A, .int .i64 bb] 40)) := (Below.refl _ _).alloc (Nat.le_refl _) _
  by_cases h30 : o = 30
  · have q0 : (o == 30) = true := by simp [h30]
    rw [if_pos h30] at HD
    have hs := Lib.hid (show ((t : Int) == A) = res by rw [HD.out]; by_cases h : (t : Int) = A <;> simp [h])
    clear h30 HD
    go_enter Tryz.func29, Tryz.ntmps29
    go_wp2_with fail
    go_ret
    exact ⟨by rw [← hs.out]; rfl, hBB⟩
  have q0 : (o == 30) = false := by simpa using h30
  rw [if_neg h30] at HD
  clear h30
  by_cases h31 : o = 31
  · have q1 : (o == 31) = true := by simp [h31]
    rw [if_pos h31] at HD
    clear h31
    by_cases h1 : (t : Int) = k + 1
    · have hs := Lib.hid (show res = true by rw [HD.out]; exact decide_eq_true (Or.inl h1))
      have q2 : ((t : Int) == (k : Int) + 1) = true := by simpa using h1
      clear h1 HD
      go_enter Tryz.func29, Tryz.ntmps29
      go_wp2_with fail
      go_ret
      exact ⟨by rw [hs.out]; rfl, hBB⟩
    · have q2 : ((t : Int) == (k : Int) + 1) = false := by simpa using h1
      have hs := Lib.hid (show ((t : Int) == A) = res by rw [HD.out]; by_cases h : (t : Int) = A <;> simp [h, h1])
      clear h1 HD
      go_enter Tryz.func29, Tryz.ntmps29
      go_wp2_with fail
      go_ret
      exact ⟨by rw [← hs.out]; rfl, hBB⟩
  have q1 : (o == 31) = false := by simpa using h31
  rw [if_neg h31] at HD
  clear h31
  by_cases h32 : o = 32
  · have q2 : (o == 32) = true := by simp [h32]
    rw [if_pos h32] at HD
    clear h32
    by_cases h1 : k < t
    · have q3 : ((k : Int) < (t : Int)) = True := eq_true (by omega)
      by_cases h2 : (t : Int) ≤ k + 1 + A
      · have q4 : ((t : Int) ≤ (k : Int) + 1 + A) = True := eq_true h2
        have hs := Lib.hid (show res = true by rw [HD.out]; exact decide_eq_true ⟨h1, h2⟩)
        clear h1 h2 HD
        go_enter Tryz.func29, Tryz.ntmps29
        go_wp2_with fail
        go_ret
        exact ⟨by rw [hs.out]; rfl, hBB⟩
      · have q4 : ((t : Int) ≤ (k : Int) + 1 + A) = False := eq_false h2
        have hs := Lib.hid (show res = false by rw [HD.out]; exact decide_eq_false (fun g => h2 g.2))
        clear h1 h2 HD
        go_enter Tryz.func29, Tryz.ntmps29
        go_wp2_with fail
        go_ret
        exact ⟨by rw [hs.out]; rfl, hBB⟩
    · have q3 : ((k : Int) < (t : Int)) = False := eq_false (by omega)
      have hs := Lib.hid (show res = false by rw [HD.out]; exact decide_eq_false (fun g => h1 g.1))
      clear h1 HD
      go_enter Tryz.func29, Tryz.ntmps29
      go_wp2_with fail
      go_ret
      exact ⟨by rw [hs.out]; rfl, hBB⟩
  have q2 : (o == 32) = false := by simpa using h32
  rw [if_neg h32] at HD
  clear h32
  by_cases h34 : o = 34
  · have q3 : (o != 34) = false := by simp [h34]
    rw [if_pos h34] at HD
    have hs := Lib.hid HD.out
    clear h34 HD
    go_enter Tryz.func29, Tryz.ntmps29
    go_wp2_with fail
    go_ret
    exact ⟨by rw [hs.out]; rfl, hBB⟩
  · have q3 : (o != 34) = true := by simpa using h34
    rw [if_neg h34] at HD
    have hs := Lib.hid (show ((t : Int) == (k : Int) + 1) = res by rw [HD.out]; by_cases h : (t : Int) = k + 1 <;> simp [h])
    clear h34 HD
    go_enter Tryz.func29, Tryz.ntmps29
    go_wp2_with fail
    go_ret
    exact ⟨by rw [← hs.out]; rfl, hBB⟩
end Go.Proofs.YtefejcofmopjfaaGreatDoor

/- Layer 20: where one may come: the program's; both tell the same. -/
namespace Go.Proofs.YtefejcofmopjfaaGreatDoor
open Go.RowKit
set_option linter.unusedSimpArgs false
set_option linter.unusedVariables false
def two (a b : Int) : List Int := if (if b < a then b else a) = (if b < a then a else b) then [if b < a then b else a] else [if b < a then b else a, if b < a then a else b]
def behL (x : Ins) (k : Nat) : List Int := if x.1 = 30 then [x.2.1] else if x.1 = 31 then two (k + 1) x.2.1 else if x.1 = 32 then (List.range (x.2.1.toNat + 1)).map (fun (j : Nat) => (k : Int) + 1 + (j : Int)) else if x.1 = 34 then [] else [(k : Int) + 1]
theorem bh_below {B : Nat} {w0 wa w2 : World} {g : Nat} (hb : Below B w0 wa) (hs : B ≤ wa.heap.size) (hg : wa.grownBy w2 (some g)) (hB : B ≤ g) : Below B w0 w2 :=
  hb.trans ⟨hg.os, hg.tape, hg.output, hg.size, fun k hk => hg.block k (by omega) (fun h => by have := Option.some.inj h; omega)⟩
-- plain: filters of a range
theorem filt_one (p : Nat → Bool) (a : Nat) (h : ∀ t, p t = decide (t = a)) : ∀ n, (List.range n).filter p = if a < n then [a] else []
  | 0 => by simp
  | n + 1 => by
    rw [List.range_succ, List.filter_append, filt_one p a h n]
    by_cases h1 : n = a
    · subst h1; simp [h]
    · have h2 : p n = false := by rw [h]; exact decide_eq_false h1
      rw [show [n].filter p = [] by simp [h2]]
      by_cases h3 : a < n
      · rw [if_pos h3, if_pos (show a < n + 1 by omega)]; simp
      · rw [if_neg h3, if_neg (show ¬ a < n + 1 by omega)]; simp
theorem filt_two (p : Nat → Bool) (a b : Nat) (hab : a < b) (h : ∀ t, p t = decide (t = a ∨ t = b)) : ∀ n, (List.range n).filter p = (if a < n then [a] else []) ++ (if b < n then [b] else [])
  | 0 => by simp
  | n + 1 => by
    rw [List.range_succ, List.filter_append, filt_two p a b hab h n]
    by_cases h1 : n = a
    · subst h1
      have h2 : p n = true := by rw [h]; simp
      rw [show [n].filter p = [n] by simp [h2]]
      rw [if_neg (show ¬ n < n by omega), if_neg (show ¬ b < n by omega), if_pos (show n < n + 1 by omega), if_neg (show ¬ b < n + 1 by omega)]; rfl
    · by_cases h3 : n = b
      · subst h3
        have h2 : p n = true := by rw [h]; simp
        rw [show [n].filter p = [n] by simp [h2]]
        rw [if_pos hab, if_neg (show ¬ n < n by omega), if_pos (show a < n + 1 by omega), if_pos (show n < n + 1 by omega)]; rfl
      · have h2 : p n = false := by rw [h]; exact decide_eq_false (by omega)
        rw [show [n].filter p = [] by simp [h2]]
        by_cases h4 : a < n
        · by_cases h5 : b < n
          · rw [if_pos h4, if_pos h5, if_pos (show a < n + 1 by omega), if_pos (show b < n + 1 by omega)]; simp
          · rw [if_pos h4, if_neg h5, if_pos (show a < n + 1 by omega), if_neg (show ¬ b < n + 1 by omega)]; simp
        · rw [if_neg h4, if_neg (show ¬ b < n by omega), if_neg (show ¬ a < n + 1 by omega), if_neg (show ¬ b < n + 1 by omega)]; simp
theorem filt_run (p : Nat → Bool) (lo : Nat) (m : Nat) (h : ∀ t, p t = decide (lo ≤ t ∧ t < lo + m)) : ∀ n, (List.range n).filter p = (List.range (min m (n - lo))).map (lo + ·)
  | 0 => by simp
  | n + 1 => by
    rw [List.range_succ, List.filter_append, filt_run p lo m h n]
    by_cases h1 : lo ≤ n ∧ n < lo + m
    · have h2 : p n = true := by rw [h]; exact decide_eq_true h1
      rw [show [n].filter p = [n] by simp [h2]]
      rw [show min m (n + 1 - lo) = min m (n - lo) + 1 by omega, List.range_succ, List.map_append]
      simp; omega
    · have h2 : p n = false := by rw [h]; exact decide_eq_false h1
      rw [show [n].filter p = [] by simp [h2]]
      rw [show min m (n + 1 - lo) = min m (n - lo) by omega]; simp
theorem may_beh (x : Ins) (k : Nat) (hk : k ≤ 300) (hA : 0 ≤ x.2.1 ∧ x.2.1 ≤ 65535) (h32 : x.1 = 32 → x.2.1 ≤ 300) : mayL x k 70000 = behL x k := by
  obtain ⟨o, A, bb⟩ := x
  dsimp only at hA h32
  obtain ⟨a, rfl⟩ : ∃ a : Nat, A = a := ⟨A.toNat, by omega⟩
  unfold mayL behL
  dsimp only
  by_cases h30 : o = 30
  · rw [if_pos h30, filt_one _ a (fun t => by unfold mayP; rw [if_pos h30]; exact decide_eq_decide.2 (by dsimp only; omega)), if_pos (by omega)]; rfl
  rw [if_neg h30]
  by_cases h31 : o = 31
  · rw [if_pos h31]
    have hp : ∀ t, mayP (o, (a : Int), bb) k t = decide (t = k + 1 ∨ t = a) := fun t => by
      unfold mayP; rw [if_neg h30, if_pos h31]; exact decide_eq_decide.2 (by dsimp only; omega)
    unfold two
    by_cases h1 : a = k + 1
    · rw [filt_one _ a (fun t => by rw [hp]; exact decide_eq_decide.2 (by omega)), if_pos (by omega)]
      rw [if_neg (show ¬ (a : Int) < (k : Int) + 1 by omega), if_neg (show ¬ (a : Int) < (k : Int) + 1 by omega), if_pos (by omega)]
      subst h1; simp
    · by_cases h2 : a < k + 1
      · rw [filt_two _ a (k + 1) h2 (fun t => by rw [hp]; exact decide_eq_decide.2 (by omega)), if_pos (by omega), if_pos (by omega)]
        rw [if_pos (show (a : Int) < (k : Int) + 1 by omega), if_pos (show (a : Int) < (k : Int) + 1 by omega), if_neg (by omega)]
        simp
      · rw [filt_two _ (k + 1) a (by omega) (fun t => by rw [hp]), if_pos (by omega), if_pos (by omega)]
        rw [if_neg (show ¬ (a : Int) < (k : Int) + 1 by omega), if_neg (show ¬ (a : Int) < (k : Int) + 1 by omega), if_neg (by omega)]
        simp
  rw [if_neg h31]
  by_cases h3 : o = 32
  · have ha := h32 h3
    rw [if_pos h3, filt_run _ (k + 1) (a + 1) (fun t => by unfold mayP; rw [if_neg h30, if_neg h31, if_pos h3]; exact decide_eq_decide.2 (by dsimp only; omega))]
    rw [show min (a + 1) (70000 - (k + 1)) = a + 1 by omega, show (a : Int).toNat + 1 = a + 1 by omega, List.map_map]
    refine List.map_congr_left (fun j _ => ?_)
    show ((k + 1 + j : Nat) : Int) = _
    omega
  rw [if_neg h3]
  by_cases h34 : o = 34
  · rw [if_pos h34]
    have : (List.range 70000).filter (mayP (o, (a : Int), bb) k) = [] := List.filter_eq_nil_iff.2 (fun t _ => by unfold mayP; rw [if_neg h30, if_neg h31, if_neg h3, if_pos h34]; simp)
    rw [this]; rfl
  · rw [if_neg h34, filt_one _ (k + 1) (fun t => by unfold mayP; rw [if_neg h30, if_neg h31, if_neg h3, if_neg h34]; exact decide_eq_decide.2 (by omega)), if_pos (by omega)]
    simp
end Go.Proofs.YtefejcofmopjfaaGreatDoor

/- Layer 20: where one may come: the program's contract; the law's awake. -/
namespace Go.Proofs.YtefejcofmopjfaaGreatDoor
open Go.RowKit
set_option linter.unusedSimpArgs false
set_option linter.unusedVariables false
end Go.Proofs.YtefejcofmopjfaaGreatDoor

/- stack.put: its answer lies in a new block. -/
namespace Go.Proofs.YtefejcofmopjfaaGreatDoor
open Go.RowKit
set_option linter.unusedSimpArgs false
set_option linter.unusedVariables false
/-- a slice that lies in a block that wasn't there -/
def NewIn (w : World) (r : Value) : Prop := ∀ a n c, r = .slice (some a) n c → w.heap.size ≤ a.block
theorem new_none (w : World) (n c : Nat) : NewIn w (.slice none n c) := fun a n c h => by cases h
theorem new_of {w w' : World} {e : TypeId} {q n : Nat} {v : Value} {xs : List Value} (h : w'.ownsRow w.heap.size e q v n xs) : NewIn w v := by
  intro a m c hv
  rcases h.2 with ⟨h1, _⟩ | ⟨g, cap, cur, h1, hB, _⟩
  · rw [h1] at hv; cases hv
  · rw [h1] at hv; cases hv; exact hB
theorem NewIn.low {w w' : World} {r : Value} (h : NewIn w' r) (hs : w.heap.size ≤ w'.heap.size) : NewIn w r := fun a n c e => Nat.le_trans hs (h a n c e)
set_option maxHeartbeats 2000000 in
theorem stack_putN (v u : Value) (L M : List Int) (w : World) (hv : RowR 1 intR w v L) (hu : RowR 1 intR w u M) (hl : L.length ≤ 2000) (hm : M.length ≤ 2000) :
    Calls Tryz.prog 105 #[v, u] w fun e w' => ∃ r, e = .returned r ∧ RowR 1 intR w' r (L ++ M) ∧ Below w.heap.size w w' ∧ NewIn w r := by
  obtain ⟨i, hi, hz, hsize, hby⟩ : ∃ i, Tryz.prog.info? 3 = some i ∧ i.zero = some (.int .i64 0) ∧ i.size = 1 ∧ i.bytes = 8 := ⟨(Tryz.prog.info? 3).get!, by kernel_rfl, by kernel_rfl, by kernel_rfl, by kernel_rfl⟩
  have HI := Lib.hid (show ∀ z ∈ L ++ M, I64 z from fun z hz => (List.mem_append.1 hz).elim (row_ints hv z) (row_ints hu z))
  have HS1 := Lib.hid (fun W (hb : Below w.heap.size w W) => (src_ints hv).below hb)
  have HS2 := Lib.hid (fun W (hb : Below w.heap.size w W) => (src_ints hu).below hb)
  obtain ⟨sa, ca, rfl⟩ := row_get hv
  obtain ⟨sb, cb, rfl⟩ := row_get hu
  clear hv hu
  obtain ⟨n1, hn1⟩ : ∃ n, L.length = n := ⟨_, rfl⟩
  obtain ⟨n2, hn2⟩ : ∃ n, M.length = n := ⟨_, rfl⟩
  have HN := Lib.hid (show L.length = n1 ∧ M.length = n2 from ⟨hn1, hn2⟩)
  rw [hn1] at hl HS1 ⊢
  rw [hn2] at hm HS2 ⊢
  clear hn1 hn2
  have hmk := fun W => run_make W 35 3 i _ Tryz.underlying35 hi hz .i64 .i64 (0 : Int) ((n1 : Int) + n2) (by omega) (by omega) (by rw [hby]; omega) (by omega)
  rw [hsize, Nat.mul_one, show ((n1 : Int) + n2).toNat = n1 + n2 by omega, show ((0 : Int)).toNat = 0 from rfl] at hmk
  obtain ⟨Z, hZ⟩ : ∃ Z, madeCells (Value.int .i64 0).cells (n1 + n2) = Z := ⟨_, rfl⟩
  have hZs : Z.size = n1 + n2 := by rw [← hZ]; simp [madeCells]
  rw [hZ] at hmk
  clear hZ
  have HE := Lib.hid (owns_made w Z 3 1 (n1 + n2) (by omega) (by unfold maxLen; omega))
  go_enter Tryz.func105, Tryz.ntmps105
  go_wp2_with (first | (at_builtin; go_loud (refine wpList_append_src rfl (.tmp 12) (.tmp 13) 35 rfl w.heap.size 3 i (.int .i64 0) 1 8 Tryz.underlying35 hi hz hsize hby rfl (by omega) _ 0 [] rfl HE.out _ n1 (iV L) rfl (HS1.out _ (by (repeat' (first | (with_reducible exact Below.refl _ _) | (with_reducible assumption) | (with_reducible refine below_drewN ?_ _) | (with_reducible refine Below.alloc ?_ ?_ _) | (with_reducible refine Below.drew ?_) | (with_reducible refine Below.setCell ?_ ?_ _) | go_size)))) (by rw [iV_len, HN.out.1]; omega) (iV_one L) (by unfold maxLen; omega) (by omega) (by simp) ?_; intro v2 w2 hO2 hG2; have hB2 := grown3 (show Below w.heap.size w (w.alloc (.cells Z 3)) from by (repeat' (first | (with_reducible exact Below.refl _ _) | (with_reducible assumption) | (with_reducible refine below_drewN ?_ _) | (with_reducible refine Below.alloc ?_ ?_ _) | (with_reducible refine Below.drew ?_) | (with_reducible refine Below.setCell ?_ ?_ _) | go_size))) (by simp) HE.out hG2; have HO2 := Lib.hid hO2; clear hO2 hG2)) | (at_builtin; go_loud (refine wpList_append_src rfl (.tmp 15) (.tmp 16) 35 rfl w.heap.size 3 i (.int .i64 0) 1 8 Tryz.underlying35 hi hz hsize hby rfl (by omega) _ (0 + n1) _ rfl HO2.out _ n2 (iV M) rfl (HS2.out _ hB2) (by rw [iV_len, HN.out.2]; omega) (iV_one M) (by unfold maxLen; omega) (by omega) hB2.size ?_; intro v3 w3 hO3 hG3; have hB3 := grown3 hB2 hB2.size HO2.out hG3; have HO3 := Lib.hid hO3; clear hO3 hG3)) | fail)
  go_returns
  exact ⟨_, rfl, row_of_owns (own_eq2 HO3.out (by rw [List.length_append, HN.out.1, HN.out.2]; omega) (by rw [iV_app]; rfl)) HI.out, hB3, new_of HO3.out⟩
end Go.Proofs.YtefejcofmopjfaaGreatDoor

/- Layer 20: where one may come lies in a new block. -/
namespace Go.Proofs.YtefejcofmopjfaaGreatDoor
open Go.RowKit
set_option linter.unusedSimpArgs false
set_option linter.unusedVariables false
theorem new_at {w : World} {g n c : Nat} (h : w.heap.size ≤ g) : NewIn w (.slice (some ⟨g, 0, none⟩) n c) := fun a m d e => by cases e; exact h
set_option maxRecDepth 100000 in
set_option maxHeartbeats 4000000 in
theorem compact2N (g : Nat) (x y : Int) (w : World) (hg : g < w.heap.size) (h : w.heap[g]? = some (.cells #[.int .i64 x, .int .i64 y] 3)) (hx : I64 x) (hy : I64 y) :
    Calls Tryz.prog 83 #[.slice (some ⟨g, 0, none⟩) 2 2] w fun e w' => ∃ r, e = .returned r ∧ RowR 1 intR w' r (if x = y then [x] else [x, y]) ∧ w.grownBy w' (some g) ∧ ∃ n c, r = .slice (some ⟨g, 0, none⟩) n c := by
  have HH := Lib.hid h
  have c0 := bh_cell h 0 (v := .int .i64 x) rfl
  have c1 := bh_cell h 1 (v := .int .i64 y) rfl
  have f1 := bh_free h 1
  have hw0 : IntKind.i64.wrap 0 = 0 := by decide
  have HX := Lib.hid (And.intro hx hy)
  have hzero : ∀ w, (zeroValue 3).run Tryz.prog w = .ok (.int .i64 0) w := fun w => by first | rfl | kernel_rfl | (simp [zeroValue]; rfl)
  clear h hx hy
  by_cases hxy : x = y
  · have q : (y == x) = true := by simp [hxy]
    rw [if_pos hxy]
    clear hxy
    go_enter Tryz.func83, Tryz.ntmps83
    go_wp2_with fail
    go_loopw [3] (fun j wr => j = .int .i64 1 ∧ wr = w) (fun _ _ => 0)
    case atStart => exact ⟨rfl, rfl⟩
    case round =>
      obtain ⟨rfl, rfl⟩ := hrel
      go_wp2_with fail
      go_quiet (fail)
      go_wp2_with fail
      go_loopw [3, 5] (fun a3 a5 wx => a3 = .int .i64 1 ∧ a5 = .int .i64 1 ∧ ∃ m, wx = wr.drewN m) (fun _ _ _ => 0)
      case atStart => exact ⟨rfl, rfl, _, rfl⟩
      case round =>
        obtain ⟨rfl, rfl, m, rfl⟩ := hrel
        have hcl : ∀ ty, (Builtin.clear_ #[35] ty #[.slice (some ⟨g, 1, none⟩) 1 1]).run Tryz.prog (wr.drewN m) = .ok (.tuple #[]) ((wr.drewN m).setCells g 1 [.int .i64 0]) := fun ty => Lib.run_clear_slice (wr.drewN m) 35 3 ty (.int .i64 0) Tryz.underlying35 hzero rfl rfl g 1 1 1 (by omega) (fun j hj => by obtain rfl : j = 0 := (by omega); exact (by rw [show (wr.drewN m).cell? ⟨g, 1 + 0, none⟩ = wr.cell? ⟨g, 1, none⟩ from rfl, c1]; rfl)) (fun j hj => by obtain rfl : j = 0 := (by omega); exact f1)
        have hc0 := bh_cell (bh_set HH.out (o := 1) (.int .i64 0)) 0 (v := .int .i64 x) rfl
        have hrow := Lib.hid (show RowR 1 intR ((wr.drewN m).setCells g 1 [.int .i64 0]) (.slice (some ⟨g, 0, none⟩) 1 2) [x] from bh_row hc0 HX.out.1)
        have hG := Lib.hid (show wr.grownBy ((wr.drewN m).setCells g 1 [.int .i64 0]) (some g) from bh_grown_set (bh_grown_below (World.grownBy.refl wr (some g)) (Below_drewN wr.heap.size wr m)) (.int .i64 0))
        go_wp2_with fail
        go_ret
        exact ⟨_, rfl, hrow.out, hG.out, _, _, rfl⟩
  · have q : (y == x) = false := by simp; omega
    rw [if_neg hxy]
    clear hxy
    go_enter Tryz.func83, Tryz.ntmps83
    go_wp2_with fail
    go_loopw [3] (fun j wr => (j = .int .i64 1 ∨ j = .int .i64 2) ∧ ∃ m, wr = w.drewN m) (fun j _ => 2 - (intOf j).toNat)
    case atStart => exact ⟨Or.inl rfl, 0, rfl⟩
    case round =>
      obtain ⟨rfl | rfl, m, rfl⟩ := hrel
      · go_wp2_with fail
        go_quiet (fail)
        go_wp2_with fail
        go_roundw
        case rel => exact ⟨Or.inr rfl, _, rfl⟩
        case measure => simp [intOf]
      · have hrow := Lib.hid (row_cells2 (w := w.drewN m) c0 c1 HX.out.1 HX.out.2)
        have hG := Lib.hid (bh_grown_below (World.grownBy.refl w (some g)) (Below_drewN w.heap.size w m))
        go_wp2_with fail
        go_ret
        exact ⟨_, rfl, hrow.out, hG.out, _, _, rfl⟩
set_option maxHeartbeats 4000000 in
theorem typing_BehindN (v : Value) (L : List Ins) (k : Nat) (x : Ins) (w : World) (hv : RowR 3 insR w v L) (hx : L[k]? = some x) (hl : L.length ≤ 300) (hA : 0 ≤ x.2.1 ∧ x.2.1 ≤ 65535) (h32 : x.1 = 32 → x.2.1 ≤ L.length) :
    Calls Tryz.prog 80 #[v, .int .i64 k] w fun e w' => ∃ r, e = .returned r ∧ RowR 1 intR w' r (behL x k) ∧ Below w.heap.size w w' ∧ NewIn w r := by
  obtain ⟨i, hi, hz, hsize, hby⟩ : ∃ i, Tryz.prog.info? 3 = some i ∧ i.zero = some (.int .i64 0) ∧ i.size = 1 ∧ i.bytes = 8 := ⟨(Tryz.prog.info? 3).get!, by kernel_rfl, by kernel_rfl, by kernel_rfl, by kernel_rfl⟩
  have hkl := lt_of_get hx
  obtain ⟨sa, ca, rfl⟩ := bh_get hv
  obtain ⟨b, off, rfl, hbw, hc⟩ := bh_at hv hkl
  obtain ⟨c0, c1, c2, _⟩ := hc k x hx
  have HD := Lib.hid (show behL x k = if x.1 = 30 then [x.2.1] else if x.1 = 31 then two (k + 1) x.2.1 else if x.1 = 32 then (List.range (x.2.1.toNat + 1)).map (fun (j : Nat) => (k : Int) + 1 + (j : Int)) else if x.1 = 34 then [] else [(k : Int) + 1] from rfl)
  clear hc hx hv
  generalize hn : L.length = n at *
  generalize behL x k = res at *
  obtain ⟨o, A, bb⟩ := x
  dsimp only at c0 c1 c2 HD hA h32
  have hw1 : IntKind.i64.wrap ((k : Int) + 1) = (k : Int) + 1 := IntWalk.i64_in _ (by omega)
  have hI1 : I64 ((k : Int) + 1) := by unfold I64; omega
  have hI2 : I64 A := by unfold I64; omega
  have HII := Lib.hid (And.intro hI1 hI2)
  clear hn hI1 hI2
  have q0 : ((k : Int) < 0) = False := eq_false (by omega)
  have q1 : ((n : Int) ≤ (k : Int)) = False := eq_false (by omega)
  obtain ⟨W0, hW0⟩ : ∃ W0, W0 = w.alloc (.cells #[.int .i64 o, .int .i64 A, .int .i64 bb] 40) := ⟨_, rfl⟩
  have hB0 : Below w.heap.size w W0 := by rw [hW0]; exact (Below.refl _ _).alloc (Nat.le_refl _) _
  have hs0 : W0.heap.size = w.heap.size + 1 := by rw [hW0]; simp
  have HS0 := Lib.hid hs0
  have HW0 := Lib.hid hW0
  clear hW0 hs0
  by_cases h30 : o = 30
  · have q2 : (o == 30) = true := by simp [h30]
    rw [if_pos h30] at HD
    clear h30
    have hrow := Lib.hid (show RowR 1 intR (W0.alloc (.cells #[.int .i64 A] 3)) (.slice (some ⟨w.heap.size + 1, 0, none⟩) 1 1) [A] from by rw [← HS0.out]; exact row_cells1 (cell_new W0 _ _ (0, 0) 0 rfl) HII.out.2)
    go_enter Tryz.func80, Tryz.ntmps80
    go_wp2_with fail
    rw [← HW0.out]
    go_ret
    exact ⟨_, rfl, by rw [HD.out]; exact hrow.out, hB0.alloc hB0.size _, new_at (Nat.le_succ _)⟩
  have q2 : (o == 30) = false := by simpa using h30
  rw [if_neg h30] at HD
  clear h30
  by_cases h31 : o = 31
  · have q3 : (o == 31) = true := by simp [h31]
    rw [if_pos h31] at HD
    clear h31
    obtain ⟨W1, hW1⟩ : ∃ W1, W1 = W0.alloc (.cells #[.int .i64 ((k : Int) + 1), .int .i64 A] 3) := ⟨_, rfl⟩
    have hB1 : Below w.heap.size w W1 := by rw [hW1]; exact hB0.alloc hB0.size _
    have hp : W1.heap[w.heap.size + 1]? = some (.cells #[.int .i64 ((k : Int) + 1), .int .i64 A] 3) := by rw [hW1]; exact alloc_get HS0.out.symm
    have hlt : w.heap.size + 1 < W1.heap.size := by rw [hW1]; simp; have := HS0.out; omega
    have HS := Lib.hid (sort2 (w.heap.size + 1) ((k : Int) + 1) A W1 hlt hp)
    have HU : Hid (two ((k : Int) + 1) A = if (if A < (k : Int) + 1 then A else (k : Int) + 1) = (if A < (k : Int) + 1 then (k : Int) + 1 else A) then [if A < (k : Int) + 1 then A else (k : Int) + 1] else [if A < (k : Int) + 1 then A else (k : Int) + 1, if A < (k : Int) + 1 then (k : Int) + 1 else A]) := Lib.hid rfl
    have hIx : I64 (if A < (k : Int) + 1 then A else (k : Int) + 1) := by split; exact HII.out.2; exact HII.out.1
    have hIy : I64 (if A < (k : Int) + 1 then (k : Int) + 1 else A) := by split; exact HII.out.1; exact HII.out.2
    have HIxy := Lib.hid (And.intro hIx hIy)
    clear hIx hIy hp
    generalize (if A < (k : Int) + 1 then A else (k : Int) + 1) = x0 at *
    generalize (if A < (k : Int) + 1 then (k : Int) + 1 else A) = y0 at *
    have HW1 := Lib.hid hW1
    clear hW1
    go_enter Tryz.func80, Tryz.ntmps80
    go_wp2_with fail
    rw [← HW0.out, ← HW1.out]
    refine HS.out.mono ?_; rintro e w2 ⟨⟨u, rfl⟩, hG2, hp2⟩
    have hB2 := bh_below hB1 (by omega) hG2 (by omega)
    have HC := Lib.hid (compact2N (w.heap.size + 1) x0 y0 w2 (Nat.lt_of_lt_of_le hlt hG2.size) hp2 HIxy.out.1 HIxy.out.2)
    have z2 := hG2.size
    clear hG2 hp2
    go_wp2_with fail
    refine HC.out.mono ?_; rintro e w3 ⟨r, rfl, hr, hG3, nr, cr, rfl⟩
    have hB3 := bh_below hB2 (by omega) hG3 (by omega)
    have Hr := Lib.hid hr
    clear hr hG3
    go_wp2_with fail
    go_ret
    exact ⟨_, rfl, by rw [HD.out, HU.out]; exact Hr.out, hB3, new_at (Nat.le_succ _)⟩
  have q3 : (o == 31) = false := by simpa using h31
  rw [if_neg h31] at HD
  clear h31
  by_cases h3 : o = 32
  · have q4 : (o == 32) = true := by simp [h3]
    have hAn := h32 h3
    rw [if_pos h3] at HD
    clear h3 h32
    obtain ⟨a, rfl⟩ : ∃ a : Nat, A = a := ⟨A.toNat, by omega⟩
    have r1 : ((a : Int) < 0) = False := eq_false (by omega)
    have r2 : ((n : Int) < (a : Int)) = False := eq_false (by omega)
    have r3 : (0 < (a : Int)) = True ∨ a = 0 := by
      by_cases h : a = 0
      · exact Or.inr h
      · exact Or.inl (eq_true (by omega))
    have hw2 : IntKind.i64.wrap ((a : Int) + 1) = (a : Int) + 1 := IntWalk.i64_in _ (by omega)
    have HD := Lib.hid (show res = (List.range (a + 1)).map (fun (j : Nat) => (k : Int) + 1 + (j : Int)) by rw [HD.out]; rfl)
    clear r3
    have ha : a ≤ 300 := by omega
    have hk3 : k ≤ 300 := by omega
    go_enter Tryz.func80, Tryz.ntmps80
    go_wp2_with fail
    rw [← HW0.out]
    go_loopw [7, 48] (fun o j wr => ∃ t : Nat, t ≤ a + 1 ∧ j = .int .i64 t ∧ Hid (wr.ownsRow w.heap.size 3 1 o t (iV ((List.range t).map (fun (j : Nat) => (k : Int) + 1 + (j : Int))))) ∧ Below w.heap.size w wr) (fun _ j _ => a + 1 - (intOf j).toNat)
    case atStart => exact ⟨0, by omega, rfl, Lib.hid (World.ownsRow_nil _ _ _ _), hB0⟩
    case round =>
      obtain ⟨t, ht, rfl, hO, hB⟩ := hrel
      have hz' := hB.size
      by_cases hlt : t < a + 1
      · have q5 : ((t : Int) < (a : Int) + 1) = True := eq_true (by omega)
        have hw9 : IntKind.i64.wrap ((t : Int) + 1) = (t : Int) + 1 := IntWalk.i64_in _ (by omega)
        have hw8 : IntKind.i64.wrap ((k : Int) + 1 + (t : Int)) = (k : Int) + 1 + (t : Int) := IntWalk.i64_in _ (by omega)
        have HT := Lib.hid (And.intro ht hlt)
        have HO := Lib.hid (owns_below hO.out ((Below.refl _ _).alloc (Nat.le_refl _) (.cells #[.int .i64 ((k : Int) + 1 + (t : Int))] 3)))
        clear ht hlt hO
        generalize hF : (List.range t).map (fun (j : Nat) => (k : Int) + 1 + (j : Int)) = Ft at *
        have HF := Lib.hid hF
        clear hF
        go_wp2_with (first | (at_builtin; go_loud (refine wpList_append_src rfl (.tmp 51) (.tmp 56) 35 rfl w.heap.size 3 i (.int .i64 0) 1 8 Tryz.underlying35 hi hz hsize hby rfl (by omega) _ t _ rfl HO.out _ 1 [.int .i64 ((k : Int) + 1 + (t : Int))] rfl (src_new _ _ _) rfl (by intro u hu; simp at hu; rw [hu]; rfl) (by unfold maxLen; have := HT.out.2; omega) (by have := HT.out.2; omega) (by simp; omega) ?_; intro v3 w3 hO3 hG3; have hB3 := grown3 (hB.alloc hz' _) (by simp; omega) HO.out hG3; have HO3 := Lib.hid hO3; clear hO3 hG3)) | fail)
        go_roundw
        case rel => exact ⟨t + 1, by have := HT.out.2; omega, by simp, Lib.hid (by rw [List.range_succ, List.map_append]; exact own_eq2 HO3.out (by simp) (by rw [HF.out]; simp [iV])), hB3⟩
        case measure => have := HT.out.2; simp [intOf]; omega
      · obtain rfl : t = a + 1 := by omega
        have q5 : (((a + 1 : Nat) : Int) < (a : Int) + 1) = False := eq_false (by omega)
        have hl' : ((List.range (a + 1)).map (fun (j : Nat) => (k : Int) + 1 + (j : Int))).length = a + 1 := by simp
        have hrow := Lib.hid (row_of_owns (own_eq2 hO.out hl'.symm rfl) (by intro z hz; obtain ⟨j, hj, rfl⟩ := List.mem_map.mp hz; have := List.mem_range.mp hj; unfold I64; omega))
        have Hnw := Lib.hid (new_of hO.out)
        clear hO hl'
        go_wp2_with fail
        go_ret
        exact ⟨_, rfl, by rw [HD.out]; exact hrow.out, hB, Hnw.out⟩
  have q4 : (o == 32) = false := by simpa using h3
  rw [if_neg h3] at HD
  clear h3 h32
  by_cases h34 : o = 34
  · have q5 : (o == 34) = true := by simp [h34]
    rw [if_pos h34] at HD
    clear h34
    go_enter Tryz.func80, Tryz.ntmps80
    go_wp2_with fail
    rw [← HW0.out]
    go_ret
    exact ⟨_, rfl, by rw [HD.out]; exact row_none, hB0, new_none _ _ _⟩
  · have q5 : (o == 34) = false := by simpa using h34
    rw [if_neg h34] at HD
    clear h34
    have hrow := Lib.hid (show RowR 1 intR (W0.alloc (.cells #[.int .i64 ((k : Int) + 1)] 3)) (.slice (some ⟨w.heap.size + 1, 0, none⟩) 1 1) [(k : Int) + 1] from by rw [← HS0.out]; exact row_cells1 (cell_new W0 _ _ (0, 0) 0 rfl) HII.out.1)
    go_enter Tryz.func80, Tryz.ntmps80
    go_wp2_with fail
    rw [← HW0.out]
    go_ret
    exact ⟨_, rfl, by rw [HD.out]; exact hrow.out, hB0.alloc hB0.size _, new_at (Nat.le_succ _)⟩
end Go.Proofs.YtefejcofmopjfaaGreatDoor

/- Layer 19: the stack behind an instruction lies in a new block. -/
namespace Go.Proofs.YtefejcofmopjfaaGreatDoor
open Go.RowKit
set_option linter.unusedSimpArgs false
set_option linter.unusedVariables false
set_option maxRecDepth 100000 in
set_option maxHeartbeats 8000000 in
theorem stack_StepN (pc pv pb pu : Value) (p : Pr) (u o a b : Int) (v : Value) (st : List Int) (w : World) (h : PrAt w pc pv pb pu p) (hT : TabR w) (hB : BTab w) (hf : wideP p = true) (hia : I64 a) (hib : I64 b) (hst : RowR 1 intR w v st) (hsl : st.length ≤ 100) :
    Calls Tryz.prog 79 #[.agg #[pc, pv, pb, pu], .int .i64 u, .agg #[.int .i64 o, .int .i64 a, .int .i64 b], v] w fun e w' => ∃ r, e = .returned (.tuple #[r, .int .i64 (stepE p u o a b st)]) ∧ RowR 1 intR w' r (stepS p u o a b st) ∧ Below w.heap.size w w' ∧ NewIn w r := by
  have cp := @cell_past
  have HO := Lib.hid (fun W (hb : Below w.heap.size w W) => refs_OneW pc pv pb pu p u o a b W (h.below hb) (hT.below hb) hf)
  have HE := Lib.hid (fun (h1 : oneP p u o a b = 0) W (hb : Below w.heap.size w W) => stack_effect pc pv pb pu p u o a b W (h.below hb) (hT.below hb) (hB.below hb) hf h1 hia hib)
  obtain ⟨W0, hW0⟩ : ∃ W0, W0 = (w.alloc (.cells #[pc, pv, pb, pu] 27)).alloc (.cells #[.int .i64 o, .int .i64 a, .int .i64 b] 40) := ⟨_, rfl⟩
  obtain ⟨k1, k2, k3, k4⟩ := boxed2 w [pc, pv, pb, pu] [.int .i64 o, .int .i64 a, .int .i64 b] 27 40 (W' := W0) (by rw [hW0]; exact Below.refl _ _)
  have HW0 := Lib.hid hW0
  clear hW0
  have K1 := Lib.hid k1
  have K2 := Lib.hid k2
  have z1 : w.heap.size < W0.heap.size := by omega
  clear k1 k2 h hT hB
  obtain ⟨sa, ca, rfl⟩ := row_get hst
  have HST := Lib.hid hst
  clear hst
  by_cases h1 : oneP p u o a b = 0
  case neg =>
    have hs : Hid (stepE p u o a b st = oneP p u o a b ∧ stepS p u o a b st = []) := Lib.hid ⟨if_neg h1, if_neg h1⟩
    generalize oneP p u o a b = e1 at *
    have q : (e1 != 0) = true := by simpa using h1
    clear h1 HE
    generalize st.length = n at *
    go_enter Tryz.func79, Tryz.ntmps79
    go_wp2_with fail
    refine (HO.out _ (by (repeat' (first | (with_reducible exact Below.refl _ _) | (with_reducible assumption) | (with_reducible refine below_drewN ?_ _) | (with_reducible refine Below.alloc ?_ ?_ _) | (with_reducible refine Below.drew ?_) | (with_reducible refine Below.setCell ?_ ?_ _) | go_size)))).mono ?_; rintro e w1 ⟨rfl, hb1⟩
    rw [← HW0.out] at hb1
    go_wp2_with fail
    go_returns
    exact ⟨_, by rw [hs.out.1]; rfl, by rw [hs.out.2]; exact row_none, k4.trans (hb1.mono k4.size), new_none _ _ _⟩
  have HE := Lib.hid (HE.out h1)
  have hsE : stepE p u o a b st = stpE o (takesL p (unAt p u) o a b) (leavesL p (unAt p u) o a b) st := if_pos h1
  have hsS : stepS p u o a b st = stpS o (takesL p (unAt p u) o a b) (leavesL p (unAt p u) o a b) st := if_pos h1
  rw [hsE, hsS]
  rw [h1] at HO
  obtain ⟨b1, b2⟩ := tk_small (p := p) (x := unAt p u) (o := o) (a := a) (b := b) hf
  have H27 := Lib.hid (show o = 27 → (takesL p (unAt p u) o a b).length = 1 from fun hh => by subst hh; rfl)
  have H29 := Lib.hid (show o = 29 → (takesL p (unAt p u) o a b).length = 2 from fun hh => by subst hh; rfl)
  generalize takesL p (unAt p u) o a b = tk at *
  generalize leavesL p (unAt p u) o a b = lv at *
  clear hsE hsS h1 hia hib hf
  have hPut := Lib.hid (fun W (bl : Nat) (z y : Int) (hz : I64 z) (hy : I64 y) (hc : W.cell? ⟨bl, 0, none⟩ = some (.int .i64 z)) (hc1 : W.cell? ⟨bl, 1, none⟩ = some (.int .i64 y)) => stack_put (.slice none 0 0) (.slice (some ⟨bl, 0, none⟩) 2 2) [] [z, y] W row_none (row_cells2 hc hc1 hz hy) (by simp) (by simp))
  obtain ⟨n, hn⟩ : ∃ n, st.length = n := ⟨_, rfl⟩
  obtain ⟨m, hm⟩ : ∃ m, tk.length = m := ⟨_, rfl⟩
  have HN := Lib.hid (show st.length = n ∧ tk.length = m from ⟨hn, hm⟩)
  rw [hn] at hsl
  rw [hm] at b1
  by_cases hlow : n < m
  · have hs := Lib.hid (stp_9 (o := o) (tk := tk) (lv := lv) (st := st) (Or.inl (by omega)))
    rw [hn] at HST ⊢
    clear hn
    have r1 : ((n : Int) - (m : Int) < 0) = True := eq_true (by omega)
    have r2 : ((n : Int) < (m : Int)) = True := eq_true (by omega)
    go_enter Tryz.func79, Tryz.ntmps79
    go_wp2_with fail
    refine (HO.out _ (by (repeat' (first | (with_reducible exact Below.refl _ _) | (with_reducible assumption) | (with_reducible refine below_drewN ?_ _) | (with_reducible refine Below.alloc ?_ ?_ _) | (with_reducible refine Below.drew ?_) | (with_reducible refine Below.setCell ?_ ?_ _) | go_size)))).mono ?_; rintro e w1 ⟨rfl, hb1⟩
    rw [← HW0.out] at hb1
    have hb1w := k4.trans (hb1.mono k4.size)
    have e00 := (K1.out.keep z1 hb1) 0 _ rfl
    have e01 := (K1.out.keep z1 hb1) 1 _ rfl
    have e02 := (K1.out.keep z1 hb1) 2 _ rfl
    have e03 := (K1.out.keep z1 hb1) 3 _ rfl
    have e20 := (K2.out.keep k3 hb1) 0 _ rfl
    have e21 := (K2.out.keep k3 hb1) 1 _ rfl
    have e22 := (K2.out.keep k3 hb1) 2 _ rfl
    go_wp2_with fail
    refine (HE.out _ hb1w).mono ?_; rintro e w2 ⟨x1, x2, rfl, hx1, hx2, hb2⟩
    obtain ⟨xa, xc, rfl⟩ := row_get hx1
    obtain ⟨ya, yc, rfl⟩ := row_get hx2
    rw [hm]
    clear hm hx1 hx2
    generalize lv.length = q at *
    go_wp2_with fail
    go_returns
    exact ⟨_, by rw [hs.out.1]; rfl, by rw [hs.out.2]; exact row_none, hb1w.trans (hb2.mono hb1w.size), new_none _ _ _⟩
  have r1 : ((n : Int) - (m : Int) < 0) = False := eq_false (by omega)
  have r2 : ((n : Int) < (m : Int)) = False := eq_false (by omega)
  by_cases h34 : o = 34 ∧ 0 < n
  · obtain ⟨rfl, hn0⟩ := h34
    have hs := Lib.hid (stp_9 (o := 34) (tk := tk) (lv := lv) (st := st) (Or.inr ⟨rfl, by omega⟩))
    have r3 : (0 < (n : Int)) = True := eq_true (by omega)
    rw [hn] at HST ⊢
    clear hn
    go_enter Tryz.func79, Tryz.ntmps79
    go_wp2_with fail
    refine (HO.out _ (by (repeat' (first | (with_reducible exact Below.refl _ _) | (with_reducible assumption) | (with_reducible refine below_drewN ?_ _) | (with_reducible refine Below.alloc ?_ ?_ _) | (with_reducible refine Below.drew ?_) | (with_reducible refine Below.setCell ?_ ?_ _) | go_size)))).mono ?_; rintro e w1 ⟨rfl, hb1⟩
    rw [← HW0.out] at hb1
    have hb1w := k4.trans (hb1.mono k4.size)
    have e00 := (K1.out.keep z1 hb1) 0 _ rfl
    have e01 := (K1.out.keep z1 hb1) 1 _ rfl
    have e02 := (K1.out.keep z1 hb1) 2 _ rfl
    have e03 := (K1.out.keep z1 hb1) 3 _ rfl
    have e20 := (K2.out.keep k3 hb1) 0 _ rfl
    have e21 := (K2.out.keep k3 hb1) 1 _ rfl
    have e22 := (K2.out.keep k3 hb1) 2 _ rfl
    go_wp2_with fail
    refine (HE.out _ hb1w).mono ?_; rintro e w2 ⟨x1, x2, rfl, hx1, hx2, hb2⟩
    obtain ⟨xa, xc, rfl⟩ := row_get hx1
    obtain ⟨ya, yc, rfl⟩ := row_get hx2
    rw [hm]
    have E20 := (K2.out.keep k3 (hb1.trans (hb2.mono hb1.size))) 0 _ rfl
    clear hm hx1 hx2
    generalize lv.length = q at *
    go_wp2_with fail
    go_returns
    exact ⟨_, by rw [hs.out.1]; rfl, by rw [hs.out.2]; exact row_none, hb1w.trans (hb2.mono hb1w.size), new_none _ _ _⟩
  have HNot := Lib.hid (show ¬ (st.length < tk.length ∨ (o = 34 ∧ 0 < st.length)) by rw [hn, hm]; intro q; rcases q with q | q; exact hlow q; exact h34 q)
  have hlN : lowN tk st = n - m := by unfold lowN; rw [hn, hm]
  have hdr := row_drop (by rw [hn] at HST; exact HST.out) (k := n - m) (by omega)
  have htr := row_take (by rw [hn] at HST; exact HST.out) (k := n - m) (by omega)
  have hsd : ∀ W, (Instr.slice 35 (.slice sa n ca) (some (.int .i64 ((n : Int) - (m : Int)))) none none).run Tryz.prog W = .ok (sliced sa (n - m) n ca 1) W := fun W => by
    rw [run_slice_l W 35 sa n ca (by kernel_rfl) .i64 ((n : Int) - m) (by omega) (by omega)]
    rw [run_sizeOf W (show Tryz.prog.info? (Tryz.prog.elem 35) = some ((Tryz.prog.info? (Tryz.prog.elem 35)).get!) by kernel_rfl)]
    rw [show Tryz.prog.cellsOf (Tryz.prog.elem 35) = 1 by kernel_rfl, show ((n : Int) - (m : Int)).toNat = n - m by omega]
    rfl
  have hst : ∀ W, (Instr.slice 35 (.slice sa n ca) none (some (.int .i64 ((n : Int) - (m : Int)))) none).run Tryz.prog W = .ok (sliced sa 0 (n - m) ca 1) W := fun W => by
    have hcap : n ≤ ca := by
      rcases HST.out with ⟨a', c', e1, e2, _⟩ | ⟨b', o', c', e1, _, e3, _⟩
      · injection e1 with e1 e4 e5; omega
      · injection e1 with e1 e4 e5; omega
    rw [run_slice_h W 35 sa n ca (by kernel_rfl) .i64 ((n : Int) - m) (by omega) (by omega)]
    rw [run_sizeOf W (show Tryz.prog.info? (Tryz.prog.elem 35) = some ((Tryz.prog.info? (Tryz.prog.elem 35)).get!) by kernel_rfl)]
    rw [show Tryz.prog.cellsOf (Tryz.prog.elem 35) = 1 by kernel_rfl, show ((n : Int) - (m : Int)).toNat = n - m by omega]
    rfl
  generalize sliced sa (n - m) n ca 1 = sd at *
  generalize sliced sa 0 (n - m) ca 1 = stt at *
  obtain ⟨da, dc, rfl⟩ := row_get hdr
  obtain ⟨ta, tc, rfl⟩ := row_get htr
  have hdl : (st.drop (n - m)).length = m := by rw [List.length_drop, hn]; omega
  have htl : (st.take (n - m)).length = n - m := by rw [List.length_take, hn]; omega
  rw [hdl] at hdr hsd
  rw [htl] at htr hst
  rw [hn] at HST ⊢
  have HDr := Lib.hid hdr
  have HTr := Lib.hid htr
  have HLN := Lib.hid hlN
  generalize hDD : st.drop (n - m) = dd at *
  generalize hTT : st.take (n - m) = tt at *
  have HDT := Lib.hid (show st.drop (lowN tk st) = dd ∧ st.take (lowN tk st) = tt by rw [hlN]; exact ⟨hDD, hTT⟩)
  have HDL := Lib.hid (show dd.length = m ∧ tt.length = n - m from ⟨hdl, htl⟩)
  have H10 := Lib.hid (fun hh => stp_10 (lv := lv) HNot.out hh)
  have H32 := Lib.hid (fun hh hh2 => stp_32 (lv := lv) HNot.out hh hh2)
  have H0 := Lib.hid (fun hh hh2 => stp_0 (lv := lv) HNot.out hh hh2)
  rw [HDT.out.1] at H10 H32 H0
  rw [HDT.out.2] at H0
  rw [hlN] at H32 H0
  have hdI := row_ints hdr
  have HDI := Lib.hid hdI
  clear hlow hdr htr hlN hDD hTT hdl htl hn HNot hdI
  have q34 : ((o == 34) = false) ∨ n = 0 := by
    by_cases g : o = 34
    · right; by_cases g0 : n = 0; exact g0; exact absurd ⟨g, by omega⟩ h34
    · left; simpa using g
  clear h34
  have s1 : ((0 < (n : Int)) = True ∧ (0 < n) = True) ∧ (o == 34) = false ∨ (0 < (n : Int)) = False ∧ (0 < n) = False := by
    by_cases g0 : n = 0
    · right; exact ⟨eq_false (by omega), eq_false (by omega)⟩
    · left; exact ⟨⟨eq_true (by omega), eq_true (by omega)⟩, q34.resolve_right g0⟩
  have HS1 := Lib.hid s1
  clear q34 s1
  by_cases d27 : o = 27
  · subst d27
    have HMK := Lib.hid (show m = 1 by have := H27.out rfl; have := HN.out.2; omega)
    go_enter Tryz.func79, Tryz.ntmps79
    go_wp2_with fail
    refine (HO.out _ (by (repeat' (first | (with_reducible exact Below.refl _ _) | (with_reducible assumption) | (with_reducible refine below_drewN ?_ _) | (with_reducible refine Below.alloc ?_ ?_ _) | (with_reducible refine Below.drew ?_) | (with_reducible refine Below.setCell ?_ ?_ _) | go_size)))).mono ?_; rintro e w1 ⟨rfl, hb1⟩
    rw [← HW0.out] at hb1
    have hb1w := k4.trans (hb1.mono k4.size)
    have e00 := (K1.out.keep z1 hb1) 0 _ rfl
    have e01 := (K1.out.keep z1 hb1) 1 _ rfl
    have e02 := (K1.out.keep z1 hb1) 2 _ rfl
    have e03 := (K1.out.keep z1 hb1) 3 _ rfl
    have e20 := (K2.out.keep k3 hb1) 0 _ rfl
    have e21 := (K2.out.keep k3 hb1) 1 _ rfl
    have e22 := (K2.out.keep k3 hb1) 2 _ rfl
    go_wp2_with fail
    refine (HE.out _ hb1w).mono ?_; rintro e w2 ⟨x1, x2, rfl, hx1, hx2, hb2⟩
    have hb2 := hb1.trans (hb2.mono hb1.size)
    have hB2 := k4.trans (hb2.mono k4.size)
    clear e00 e01 e02 e03 e20 e21 e22
    have E20 := (K2.out.keep k3 hb2) 0 _ rfl
    obtain ⟨xa, xc, rfl⟩ := row_get hx1
    obtain ⟨ya, yc, rfl⟩ := row_get hx2
    have HX1 := Lib.hid hx1
    have HX2 := Lib.hid hx2
    rw [hm] at HX1 ⊢
    have z2 : w.heap.size + 1 < w2.heap.size := Nat.lt_of_lt_of_le k3 hb2.size
    clear hx1 hx2 hb1 hb1w
    go_wp2_with fail
    go_loopw [53] (fun jj wr => ∃ k d : Nat, k ≤ m ∧ jj = .int .i64 k ∧ Hid (∀ j, j < k → tk.getD j 0 = 0 ∨ dd.getD j 0 = 0 ∨ tk.getD j 0 = dd.getD j 0) ∧ wr = w2.drewN d) (fun jj _ => m - (intOf jj).toNat)
    case atStart => exact ⟨0, 0, by omega, rfl, Lib.hid (fun j hj => by omega), rfl⟩
    case round =>
      obtain ⟨k, d, hk, rfl, hall, rfl⟩ := hrel
      by_cases hlt : k < m
      · obtain ⟨t, ht⟩ := get_some (L := tk) (n := k) (by have := HN.out.2; omega)
        obtain ⟨y, hy⟩ := get_some (L := dd) (n := k) (by have := HDL.out.1; omega)
        obtain ⟨bx, ox, rfl, hbx, hcx⟩ := ints_at HX1.out (lt_of_get ht)
        obtain ⟨g0, _⟩ := hcx k t ht
        obtain ⟨by', oy, rfl, hby, hcy⟩ := ints_at HDr.out (lt_of_get hy)
        obtain ⟨g1', _⟩ := hcy k y hy
        have g1 := (hB2.cell (p := ⟨by', oy + k, none⟩) hby).trans g1'
        have hk1 : ∀ (hh : t = 0 ∨ y = 0 ∨ t = y), ∀ j, j < k + 1 → tk.getD j 0 = 0 ∨ dd.getD j 0 = 0 ∨ tk.getD j 0 = dd.getD j 0 := by
          intro hh j hj
          by_cases hjk : j = k
          · subst hjk; simpa [List.getD, ht, hy] using hh
          · exact hall.out j (by omega)
        have HK1 := Lib.hid hk1
        have HNo := Lib.hid (fun a1 a2 a3 => H10.out (fitsT_no ht hy a1 a2 a3))
        clear hk1 hcx hcy ht hy g1'
        by_cases c1 : t = 0
        · have f1 : (t != 0) = false := by simp [c1]
          have hs := Lib.hid (HK1.out (Or.inl c1))
          clear c1
          go_wp2_with fail
          go_roundw
          case rel => exact ⟨k + 1, _, by omega, by simp, hs, rfl⟩
          case measure => first | (simp [intOf]; done) | (simp [intOf]; omega)
        · have f1 : (t != 0) = true := by simpa using c1
          by_cases c2 : y = 0
          · have f2 : (y != 0) = false := by simp [c2]
            have hs := Lib.hid (HK1.out (Or.inr (Or.inl c2)))
            clear c1 c2
            go_wp2_with fail
            go_roundw
            case rel => exact ⟨k + 1, _, by omega, by simp, hs, rfl⟩
            case measure => first | (simp [intOf]; done) | (simp [intOf]; omega)
          · have f2 : (y != 0) = true := by simpa using c2
            by_cases c3 : t = y
            · have f3 : (t != y) = false := by simp [c3]
              have hs := Lib.hid (HK1.out (Or.inr (Or.inr c3)))
              clear c1 c2 c3
              go_wp2_with fail
              go_roundw
              case rel => exact ⟨k + 1, _, by omega, by simp, hs, rfl⟩
              case measure => first | (simp [intOf]; done) | (simp [intOf]; omega)
            · have f3 : (t != y) = true := by simpa using c3
              have hs := Lib.hid (HNo.out c1 c2 c3)
              clear c1 c2 c3
              go_wp2_with fail
              go_returns
              exact ⟨_, by rw [hs.out.1]; rfl, by rw [hs.out.2]; exact row_none, below_drewN hB2 _, new_none _ _ _⟩
      · obtain rfl : k = m := by omega
        have HF := Lib.hid (fitsT_yes (tk := tk) (top := dd) (fun j hj => hall.out j (by have := HN.out.2; omega)))
        clear hall
        obtain ⟨y0, hy0⟩ := get_some (L := dd) (n := 0) (by have := HDL.out.1; have := HMK.out; omega)
        obtain ⟨by', oy, rfl, hby, hcy⟩ := ints_at HDr.out (lt_of_get hy0)
        obtain ⟨D0', _⟩ := hcy 0 y0 hy0
        have D0 := (hB2.cell (p := ⟨by', oy + 0, none⟩) hby).trans D0'
        have HI0 := Lib.hid (HDI.out y0 (List.mem_of_getElem? hy0))
        have kp0 : 0 < k := by have := HMK.out; omega
        have kp1 : ((0 : Int) < (k : Int)) = True := eq_true (by omega)
        have kp2 : (0 < k) = True := eq_true kp0
        simp only [Nat.add_zero] at D0
        have hlv : lvS 27 lv dd = [y0, y0] := by unfold lvS; simp [List.getD, hy0]
        have H32' := Lib.hid (H32.out HF.out)
        have H0' := Lib.hid (H0.out HF.out)
        rw [hlv] at H32' H0'
        have zd : by' < w2.heap.size := Nat.lt_of_lt_of_le hby hB2.size
        clear hlv hcy hy0 D0' H32 H0 H10
        generalize lv.length = q at *
        obtain ⟨W2, hW2⟩ : ∃ W2, W2 = w2.drewN d := ⟨_, rfl⟩
        have hBW2 : Below w.heap.size w W2 := by rw [hW2]; exact below_drewN hB2 _
        have hB2W : Below w2.heap.size w2 W2 := by rw [hW2]; exact Below_drewN _ _ _
        have D0 := (hB2W.cell (p := ⟨by', oy, none⟩) zd).trans D0
        have E20 := (hB2W.cell (p := ⟨w.heap.size + 1, 0, none⟩) z2).trans E20
        have zd := Nat.lt_of_lt_of_le zd hB2W.size
        rw [← hW2]
        have HW2 := Lib.hid hW2
        clear hW2
        go_wp2_with fail
        refine wp_region_held_drew (S := (fun w' => Below W2.heap.size W2 w')) (by kernel_rfl) ?_ (fun hHeld => ?_)
        · (try dsimp only); first | assumption | exact Below.alloc hHeld hHeld.size _ | exact (Below.refl _ _).drew | exact Below.drew (Below.refl _ _) | exact Below_drewN _ _ _ | exact Below.refl _ _ | (trace_state; fail)
        refine wpAnyH_take (i := 0) (oi := { dst := some 80, op := Op.move (Operand.tmp 14), type := 35, pos := _, after := #[], guard := none }) (v := ?_) rfl (by kernel_rfl) (by kernel_rfl) (by kernel_rfl) (fun _ _ _ h => h) (Or.inl ⟨by rfl, ?_⟩) (by assumption) ?_
        rotate_left
        · intro wt hSw; (try dsimp only at hSw); have D0 := cellB hSw D0 zd; first | (go_simp; done) | (go_simp; with_reducible rfl) | (trace_state; fail)
        try simp only [Act.put, List.setIfInBounds_toArray, List.set_cons_zero, List.set_cons_succ]
        refine wpAnyH_take (i := 1) (oi := { dst := some 81, op := Op.indexAddr 35 (Operand.tmp 80) (Operand.const (Value.int IntKind.i64 0)), type := 0, pos := _, after := #[{ on := 0, ground := Ground.data }], guard := none }) (v := ?_) rfl (by kernel_rfl) (by kernel_rfl) (by kernel_rfl) (fun _ _ _ h => h) (Or.inl ⟨by rfl, ?_⟩) (by assumption) ?_
        rotate_left
        · intro wt hSw; (try dsimp only at hSw); have D0 := cellB hSw D0 zd; first | (go_simp; done) | (go_simp; with_reducible rfl) | (trace_state; fail)
        try simp only [Act.put, List.setIfInBounds_toArray, List.set_cons_zero, List.set_cons_succ]
        refine wpAnyH_take (i := 2) (oi := { dst := some 82, op := Op.load 3 (Operand.tmp 81), type := 3, pos := _, after := #[{ on := 1, ground := Ground.data }], guard := none }) (v := ?_) rfl (by kernel_rfl) (by kernel_rfl) (by kernel_rfl) (fun _ _ _ h => h) (Or.inl ⟨by rfl, ?_⟩) (by assumption) ?_
        rotate_left
        · intro wt hSw; (try dsimp only at hSw); have D0 := cellB hSw D0 zd; first | (go_simp; done) | (go_simp; with_reducible rfl) | (trace_state; fail)
        try simp only [Act.put, List.setIfInBounds_toArray, List.set_cons_zero, List.set_cons_succ]
        refine wpAnyH_take (i := 3) (oi := { dst := some 83, op := Op.move (Operand.tmp 14), type := 35, pos := _, after := #[], guard := none }) (v := ?_) rfl (by kernel_rfl) (by kernel_rfl) (by kernel_rfl) (fun _ _ _ h => h) (Or.inl ⟨by rfl, ?_⟩) (by assumption) ?_
        rotate_left
        · intro wt hSw; (try dsimp only at hSw); have D0 := cellB hSw D0 zd; first | (go_simp; done) | (go_simp; with_reducible rfl) | (trace_state; fail)
        try simp only [Act.put, List.setIfInBounds_toArray, List.set_cons_zero, List.set_cons_succ]
        refine wpAnyH_take (i := 4) (oi := { dst := some 84, op := Op.indexAddr 35 (Operand.tmp 83) (Operand.const (Value.int IntKind.i64 0)), type := 0, pos := _, after := #[{ on := 3, ground := Ground.data }], guard := none }) (v := ?_) rfl (by kernel_rfl) (by kernel_rfl) (by kernel_rfl) (fun _ _ _ h => h) (Or.inl ⟨by rfl, ?_⟩) (by assumption) ?_
        rotate_left
        · intro wt hSw; (try dsimp only at hSw); have D0 := cellB hSw D0 zd; first | (go_simp; done) | (go_simp; with_reducible rfl) | (trace_state; fail)
        try simp only [Act.put, List.setIfInBounds_toArray, List.set_cons_zero, List.set_cons_succ]
        refine wpAnyH_take (i := 5) (oi := { dst := some 85, op := Op.load 3 (Operand.tmp 84), type := 3, pos := _, after := #[{ on := 4, ground := Ground.data }], guard := none }) (v := ?_) rfl (by kernel_rfl) (by kernel_rfl) (by kernel_rfl) (fun _ _ _ h => h) (Or.inl ⟨by rfl, ?_⟩) (by assumption) ?_
        rotate_left
        · intro wt hSw; (try dsimp only at hSw); have D0 := cellB hSw D0 zd; first | (go_simp; done) | (go_simp; with_reducible rfl) | (trace_state; fail)
        try simp only [Act.put, List.setIfInBounds_toArray, List.set_cons_zero, List.set_cons_succ]
        refine wpAnyH_ready (rs := [6]) (by kernel_rfl) (by simp) ?_
        refine AllReadyH.cons (o := { dst := some 86, op := Op.buildSlice 35 2 #[(0, Operand.tmp 82), (1, Operand.tmp 85)], type := 35, pos := _, after := #[{ on := 2, ground := Ground.data }, { on := 5, ground := Ground.data }], guard := none }) rfl (fun K hK => ?_) AllReadyH.nil
        go_simp
        refine hK.out _ _ ?_ (fun hHeld => ?_)
        · (try dsimp only); first | assumption | exact Below.alloc hHeld hHeld.size _ | exact (Below.refl _ _).drew | exact Below.drew (Below.refl _ _) | exact Below_drewN _ _ _ | exact Below.refl _ _ | (trace_state; fail)
        clear hK K
        try simp only [Act.put, List.setIfInBounds_toArray, List.set_cons_zero, List.set_cons_succ]
        refine wpAnyH_ready (rs := [7]) (by kernel_rfl) (by simp) ?_
        refine AllReadyH.cons (o := { dst := some 87, op := Op.call { callee := Callee.value (Operand.func 105), args := #[Operand.const (Value.slice none 0 0), Operand.tmp 86], argTypes := #[35, 35] }, type := 35, pos := _, after := #[{ on := 6, ground := Ground.data }], guard := none }) rfl (fun K hK => ?_) AllReadyH.nil
        go_simp
        refine (hPut.out _ _ y0 y0 HI0.out HI0.out (by first | (go_cell; done) | (simp [go_sem]; done)) (by first | (go_cell; done) | (simp [go_sem]; done))).mono ?_; rintro e w3 ⟨r3, rfl, hr3, hb3⟩; obtain ⟨ra3, rc3, rfl⟩ := row_get hr3; have Hr3 := Lib.hid hr3; have hHeld := hHeld.trans (hb3.mono hHeld.size); clear hb3 hr3
        go_wp2_with fail
        refine hK.out _ _ ?_ (fun hHeld => ?_)
        · (try dsimp only); first | assumption | exact Below.alloc hHeld hHeld.size _ | exact (Below.refl _ _).drew | exact Below.drew (Below.refl _ _) | exact Below_drewN _ _ _ | exact Below.refl _ _ | (trace_state; fail)
        clear hK K
        try simp only [Act.put, List.setIfInBounds_toArray, List.set_cons_zero, List.set_cons_succ]
        refine wpAnyH_take (i := 8) (oi := { dst := some 12, op := Op.assign (Operand.tmp 87), type := 35, pos := _, after := #[{ on := 7, ground := Ground.data }, { on := 7, ground := Ground.chain }, { on := 0, ground := Ground.phase }, { on := 1, ground := Ground.phase }, { on := 2, ground := Ground.phase }, { on := 3, ground := Ground.phase }, { on := 4, ground := Ground.phase }, { on := 5, ground := Ground.phase }, { on := 6, ground := Ground.phase }, { on := 7, ground := Ground.phase }], guard := none }) (v := ?_) rfl (by kernel_rfl) (by kernel_rfl) (by kernel_rfl) (fun _ _ _ h => h) (Or.inl ⟨by rfl, ?_⟩) (by assumption) ?_
        rotate_left
        · intro wt hSw; (try dsimp only at hSw); have D0 := cellB hSw D0 zd; first | (go_simp; done) | (go_simp; with_reducible rfl) | (trace_state; fail)
        try simp only [Act.put, List.setIfInBounds_toArray, List.set_cons_zero, List.set_cons_succ]
        refine wpAnyH_done (by kernel_rfl) ?_ _
        have hB3 := hBW2.trans (hHeld.mono hBW2.size)
        by_cases c32 : 32 < n - k + 2
        · have f32 : (32 < (n : Int) - (k : Int) + 2) = True := eq_true (by omega)
          have hs := Lib.hid (H32'.out (by simpa using c32))
          clear c32
          go_wp2_with fail
          go_returns
          exact ⟨_, by rw [hs.out.1]; rfl, by rw [hs.out.2]; exact row_none, hB3, new_none _ _ _⟩
        · have f32 : (32 < (n : Int) - (k : Int) + 2) = False := eq_false (by omega)
          have hs := Lib.hid (H0'.out (by simpa using c32))
          clear c32
          go_wp2_with fail
          refine (stack_putN _ _ tt [y0, y0] _ (HTr.out.below intR_stable hB3) Hr3.out (by have := HDL.out.2; omega) (by simp)).mono ?_; rintro e w4 ⟨r, rfl, hr, hb4, hnw⟩; have Hnw := Lib.hid (hnw.low (w := w) hB3.size); clear hnw
          have Hr := Lib.hid hr
          have hB4 := hB3.trans (hb4.mono hB3.size)
          clear hr hb4
          go_wp2_with fail
          go_returns
          exact ⟨_, by rw [hs.out.1]; rfl, by rw [hs.out.2]; exact Hr.out, hB4, Hnw.out⟩
  by_cases d29 : o = 29
  · subst d29
    have HMK := Lib.hid (show m = 2 by have := H29.out rfl; have := HN.out.2; omega)
    go_enter Tryz.func79, Tryz.ntmps79
    go_wp2_with fail
    refine (HO.out _ (by (repeat' (first | (with_reducible exact Below.refl _ _) | (with_reducible assumption) | (with_reducible refine below_drewN ?_ _) | (with_reducible refine Below.alloc ?_ ?_ _) | (with_reducible refine Below.drew ?_) | (with_reducible refine Below.setCell ?_ ?_ _) | go_size)))).mono ?_; rintro e w1 ⟨rfl, hb1⟩
    rw [← HW0.out] at hb1
    have hb1w := k4.trans (hb1.mono k4.size)
    have e00 := (K1.out.keep z1 hb1) 0 _ rfl
    have e01 := (K1.out.keep z1 hb1) 1 _ rfl
    have e02 := (K1.out.keep z1 hb1) 2 _ rfl
    have e03 := (K1.out.keep z1 hb1) 3 _ rfl
    have e20 := (K2.out.keep k3 hb1) 0 _ rfl
    have e21 := (K2.out.keep k3 hb1) 1 _ rfl
    have e22 := (K2.out.keep k3 hb1) 2 _ rfl
    go_wp2_with fail
    refine (HE.out _ hb1w).mono ?_; rintro e w2 ⟨x1, x2, rfl, hx1, hx2, hb2⟩
    have hb2 := hb1.trans (hb2.mono hb1.size)
    have hB2 := k4.trans (hb2.mono k4.size)
    clear e00 e01 e02 e03 e20 e21 e22
    have E20 := (K2.out.keep k3 hb2) 0 _ rfl
    obtain ⟨xa, xc, rfl⟩ := row_get hx1
    obtain ⟨ya, yc, rfl⟩ := row_get hx2
    have HX1 := Lib.hid hx1
    have HX2 := Lib.hid hx2
    rw [hm] at HX1 ⊢
    have z2 : w.heap.size + 1 < w2.heap.size := Nat.lt_of_lt_of_le k3 hb2.size
    clear hx1 hx2 hb1 hb1w
    go_wp2_with fail
    go_loopw [53] (fun jj wr => ∃ k d : Nat, k ≤ m ∧ jj = .int .i64 k ∧ Hid (∀ j, j < k → tk.getD j 0 = 0 ∨ dd.getD j 0 = 0 ∨ tk.getD j 0 = dd.getD j 0) ∧ wr = w2.drewN d) (fun jj _ => m - (intOf jj).toNat)
    case atStart => exact ⟨0, 0, by omega, rfl, Lib.hid (fun j hj => by omega), rfl⟩
    case round =>
      obtain ⟨k, d, hk, rfl, hall, rfl⟩ := hrel
      by_cases hlt : k < m
      · obtain ⟨t, ht⟩ := get_some (L := tk) (n := k) (by have := HN.out.2; omega)
        obtain ⟨y, hy⟩ := get_some (L := dd) (n := k) (by have := HDL.out.1; omega)
        obtain ⟨bx, ox, rfl, hbx, hcx⟩ := ints_at HX1.out (lt_of_get ht)
        obtain ⟨g0, _⟩ := hcx k t ht
        obtain ⟨by', oy, rfl, hby, hcy⟩ := ints_at HDr.out (lt_of_get hy)
        obtain ⟨g1', _⟩ := hcy k y hy
        have g1 := (hB2.cell (p := ⟨by', oy + k, none⟩) hby).trans g1'
        have hk1 : ∀ (hh : t = 0 ∨ y = 0 ∨ t = y), ∀ j, j < k + 1 → tk.getD j 0 = 0 ∨ dd.getD j 0 = 0 ∨ tk.getD j 0 = dd.getD j 0 := by
          intro hh j hj
          by_cases hjk : j = k
          · subst hjk; simpa [List.getD, ht, hy] using hh
          · exact hall.out j (by omega)
        have HK1 := Lib.hid hk1
        have HNo := Lib.hid (fun a1 a2 a3 => H10.out (fitsT_no ht hy a1 a2 a3))
        clear hk1 hcx hcy ht hy g1'
        by_cases c1 : t = 0
        · have f1 : (t != 0) = false := by simp [c1]
          have hs := Lib.hid (HK1.out (Or.inl c1))
          clear c1
          go_wp2_with fail
          go_roundw
          case rel => exact ⟨k + 1, _, by omega, by simp, hs, rfl⟩
          case measure => first | (simp [intOf]; done) | (simp [intOf]; omega)
        · have f1 : (t != 0) = true := by simpa using c1
          by_cases c2 : y = 0
          · have f2 : (y != 0) = false := by simp [c2]
            have hs := Lib.hid (HK1.out (Or.inr (Or.inl c2)))
            clear c1 c2
            go_wp2_with fail
            go_roundw
            case rel => exact ⟨k + 1, _, by omega, by simp, hs, rfl⟩
            case measure => first | (simp [intOf]; done) | (simp [intOf]; omega)
          · have f2 : (y != 0) = true := by simpa using c2
            by_cases c3 : t = y
            · have f3 : (t != y) = false := by simp [c3]
              have hs := Lib.hid (HK1.out (Or.inr (Or.inr c3)))
              clear c1 c2 c3
              go_wp2_with fail
              go_roundw
              case rel => exact ⟨k + 1, _, by omega, by simp, hs, rfl⟩
              case measure => first | (simp [intOf]; done) | (simp [intOf]; omega)
            · have f3 : (t != y) = true := by simpa using c3
              have hs := Lib.hid (HNo.out c1 c2 c3)
              clear c1 c2 c3
              go_wp2_with fail
              go_returns
              exact ⟨_, by rw [hs.out.1]; rfl, by rw [hs.out.2]; exact row_none, below_drewN hB2 _, new_none _ _ _⟩
      · obtain rfl : k = m := by omega
        have HF := Lib.hid (fitsT_yes (tk := tk) (top := dd) (fun j hj => hall.out j (by have := HN.out.2; omega)))
        clear hall
        obtain ⟨y0, hy0⟩ := get_some (L := dd) (n := 0) (by have := HDL.out.1; have := HMK.out; omega)
        obtain ⟨y1, hy1⟩ := get_some (L := dd) (n := 1) (by have := HDL.out.1; have := HMK.out; omega)
        obtain ⟨by', oy, rfl, hby, hcy⟩ := ints_at HDr.out (lt_of_get hy0)
        obtain ⟨D0', _⟩ := hcy 0 y0 hy0
        have D0 := (hB2.cell (p := ⟨by', oy + 0, none⟩) hby).trans D0'
        have HI0 := Lib.hid (HDI.out y0 (List.mem_of_getElem? hy0))
        obtain ⟨D1', _⟩ := hcy 1 y1 hy1
        have D1 := (hB2.cell (p := ⟨by', oy + 1, none⟩) hby).trans D1'
        have HI1 := Lib.hid (HDI.out y1 (List.mem_of_getElem? hy1))
        have kp0 : 0 < k := by have := HMK.out; omega
        have kp1 : ((0 : Int) < (k : Int)) = True := eq_true (by omega)
        have kp2 : (0 < k) = True := eq_true kp0
        have kp3 : ((1 : Int) < (k : Int)) = True := eq_true (by have := HMK.out; omega)
        have kp4 : (1 < k) = True := eq_true (by have := HMK.out; omega)
        simp only [Nat.add_zero] at D0
        have hlv : lvS 29 lv dd = [y1, y0] := by unfold lvS; simp [List.getD, hy0, hy1]
        have H32' := Lib.hid (H32.out HF.out)
        have H0' := Lib.hid (H0.out HF.out)
        rw [hlv] at H32' H0'
        have zd : by' < w2.heap.size := Nat.lt_of_lt_of_le hby hB2.size
        clear hlv hcy hy0 D0' H32 H0 H10
        generalize lv.length = q at *
        obtain ⟨W2, hW2⟩ : ∃ W2, W2 = w2.drewN d := ⟨_, rfl⟩
        have hBW2 : Below w.heap.size w W2 := by rw [hW2]; exact below_drewN hB2 _
        have hB2W : Below w2.heap.size w2 W2 := by rw [hW2]; exact Below_drewN _ _ _
        have D0 := (hB2W.cell (p := ⟨by', oy, none⟩) zd).trans D0
        have D1 := (hB2W.cell (p := ⟨by', oy + 1, none⟩) zd).trans D1
        have E20 := (hB2W.cell (p := ⟨w.heap.size + 1, 0, none⟩) z2).trans E20
        have zd := Nat.lt_of_lt_of_le zd hB2W.size
        rw [← hW2]
        have HW2 := Lib.hid hW2
        clear hW2
        go_wp2_with fail
        refine wp_region_held_drew (S := (fun w' => Below W2.heap.size W2 w')) (by kernel_rfl) ?_ (fun hHeld => ?_)
        · (try dsimp only); first | assumption | exact Below.alloc hHeld hHeld.size _ | exact (Below.refl _ _).drew | exact Below.drew (Below.refl _ _) | exact Below_drewN _ _ _ | exact Below.refl _ _ | (trace_state; fail)
        refine wpAnyH_take (i := 0) (oi := { dst := some 90, op := Op.move (Operand.tmp 14), type := 35, pos := _, after := #[], guard := none }) (v := ?_) rfl (by kernel_rfl) (by kernel_rfl) (by kernel_rfl) (fun _ _ _ h => h) (Or.inl ⟨by rfl, ?_⟩) (by assumption) ?_
        rotate_left
        · intro wt hSw; (try dsimp only at hSw); have D0 := cellB hSw D0 zd; have D1 := cellB hSw D1 zd; first | (go_simp; done) | (go_simp; with_reducible rfl) | (trace_state; fail)
        try simp only [Act.put, List.setIfInBounds_toArray, List.set_cons_zero, List.set_cons_succ]
        refine wpAnyH_take (i := 1) (oi := { dst := some 91, op := Op.indexAddr 35 (Operand.tmp 90) (Operand.const (Value.int IntKind.i64 1)), type := 0, pos := _, after := #[{ on := 0, ground := Ground.data }], guard := none }) (v := ?_) rfl (by kernel_rfl) (by kernel_rfl) (by kernel_rfl) (fun _ _ _ h => h) (Or.inl ⟨by rfl, ?_⟩) (by assumption) ?_
        rotate_left
        · intro wt hSw; (try dsimp only at hSw); have D0 := cellB hSw D0 zd; have D1 := cellB hSw D1 zd; first | (go_simp; done) | (go_simp; with_reducible rfl) | (trace_state; fail)
        try simp only [Act.put, List.setIfInBounds_toArray, List.set_cons_zero, List.set_cons_succ]
        refine wpAnyH_take (i := 2) (oi := { dst := some 92, op := Op.load 3 (Operand.tmp 91), type := 3, pos := _, after := #[{ on := 1, ground := Ground.data }], guard := none }) (v := ?_) rfl (by kernel_rfl) (by kernel_rfl) (by kernel_rfl) (fun _ _ _ h => h) (Or.inl ⟨by rfl, ?_⟩) (by assumption) ?_
        rotate_left
        · intro wt hSw; (try dsimp only at hSw); have D0 := cellB hSw D0 zd; have D1 := cellB hSw D1 zd; first | (go_simp; done) | (go_simp; with_reducible rfl) | (trace_state; fail)
        try simp only [Act.put, List.setIfInBounds_toArray, List.set_cons_zero, List.set_cons_succ]
        refine wpAnyH_take (i := 3) (oi := { dst := some 93, op := Op.move (Operand.tmp 14), type := 35, pos := _, after := #[], guard := none }) (v := ?_) rfl (by kernel_rfl) (by kernel_rfl) (by kernel_rfl) (fun _ _ _ h => h) (Or.inl ⟨by rfl, ?_⟩) (by assumption) ?_
        rotate_left
        · intro wt hSw; (try dsimp only at hSw); have D0 := cellB hSw D0 zd; have D1 := cellB hSw D1 zd; first | (go_simp; done) | (go_simp; with_reducible rfl) | (trace_state; fail)
        try simp only [Act.put, List.setIfInBounds_toArray, List.set_cons_zero, List.set_cons_succ]
        refine wpAnyH_take (i := 4) (oi := { dst := some 94, op := Op.indexAddr 35 (Operand.tmp 93) (Operand.const (Value.int IntKind.i64 0)), type := 0, pos := _, after := #[{ on := 3, ground := Ground.data }], guard := none }) (v := ?_) rfl (by kernel_rfl) (by kernel_rfl) (by kernel_rfl) (fun _ _ _ h => h) (Or.inl ⟨by rfl, ?_⟩) (by assumption) ?_
        rotate_left
        · intro wt hSw; (try dsimp only at hSw); have D0 := cellB hSw D0 zd; have D1 := cellB hSw D1 zd; first | (go_simp; done) | (go_simp; with_reducible rfl) | (trace_state; fail)
        try simp only [Act.put, List.setIfInBounds_toArray, List.set_cons_zero, List.set_cons_succ]
        refine wpAnyH_take (i := 5) (oi := { dst := some 95, op := Op.load 3 (Operand.tmp 94), type := 3, pos := _, after := #[{ on := 4, ground := Ground.data }], guard := none }) (v := ?_) rfl (by kernel_rfl) (by kernel_rfl) (by kernel_rfl) (fun _ _ _ h => h) (Or.inl ⟨by rfl, ?_⟩) (by assumption) ?_
        rotate_left
        · intro wt hSw; (try dsimp only at hSw); have D0 := cellB hSw D0 zd; have D1 := cellB hSw D1 zd; first | (go_simp; done) | (go_simp; with_reducible rfl) | (trace_state; fail)
        try simp only [Act.put, List.setIfInBounds_toArray, List.set_cons_zero, List.set_cons_succ]
        refine wpAnyH_ready (rs := [6]) (by kernel_rfl) (by simp) ?_
        refine AllReadyH.cons (o := { dst := some 96, op := Op.buildSlice 35 2 #[(0, Operand.tmp 92), (1, Operand.tmp 95)], type := 35, pos := _, after := #[{ on := 2, ground := Ground.data }, { on := 5, ground := Ground.data }], guard := none }) rfl (fun K hK => ?_) AllReadyH.nil
        go_simp
        refine hK.out _ _ ?_ (fun hHeld => ?_)
        · (try dsimp only); first | assumption | exact Below.alloc hHeld hHeld.size _ | exact (Below.refl _ _).drew | exact Below.drew (Below.refl _ _) | exact Below_drewN _ _ _ | exact Below.refl _ _ | (trace_state; fail)
        clear hK K
        try simp only [Act.put, List.setIfInBounds_toArray, List.set_cons_zero, List.set_cons_succ]
        refine wpAnyH_ready (rs := [7]) (by kernel_rfl) (by simp) ?_
        refine AllReadyH.cons (o := { dst := some 97, op := Op.call { callee := Callee.value (Operand.func 105), args := #[Operand.const (Value.slice none 0 0), Operand.tmp 96], argTypes := #[35, 35] }, type := 35, pos := _, after := #[{ on := 6, ground := Ground.data }], guard := none }) rfl (fun K hK => ?_) AllReadyH.nil
        go_simp
        refine (hPut.out _ _ y1 y0 HI1.out HI0.out (by first | (go_cell; done) | (simp [go_sem]; done)) (by first | (go_cell; done) | (simp [go_sem]; done))).mono ?_; rintro e w3 ⟨r3, rfl, hr3, hb3⟩; obtain ⟨ra3, rc3, rfl⟩ := row_get hr3; have Hr3 := Lib.hid hr3; have hHeld := hHeld.trans (hb3.mono hHeld.size); clear hb3 hr3
        go_wp2_with fail
        refine hK.out _ _ ?_ (fun hHeld => ?_)
        · (try dsimp only); first | assumption | exact Below.alloc hHeld hHeld.size _ | exact (Below.refl _ _).drew | exact Below.drew (Below.refl _ _) | exact Below_drewN _ _ _ | exact Below.refl _ _ | (trace_state; fail)
        clear hK K
        try simp only [Act.put, List.setIfInBounds_toArray, List.set_cons_zero, List.set_cons_succ]
        refine wpAnyH_take (i := 8) (oi := { dst := some 12, op := Op.assign (Operand.tmp 97), type := 35, pos := _, after := #[{ on := 7, ground := Ground.data }, { on := 7, ground := Ground.chain }, { on := 0, ground := Ground.phase }, { on := 1, ground := Ground.phase }, { on := 2, ground := Ground.phase }, { on := 3, ground := Ground.phase }, { on := 4, ground := Ground.phase }, { on := 5, ground := Ground.phase }, { on := 6, ground := Ground.phase }, { on := 7, ground := Ground.phase }], guard := none }) (v := ?_) rfl (by kernel_rfl) (by kernel_rfl) (by kernel_rfl) (fun _ _ _ h => h) (Or.inl ⟨by rfl, ?_⟩) (by assumption) ?_
        rotate_left
        · intro wt hSw; (try dsimp only at hSw); have D0 := cellB hSw D0 zd; have D1 := cellB hSw D1 zd; first | (go_simp; done) | (go_simp; with_reducible rfl) | (trace_state; fail)
        try simp only [Act.put, List.setIfInBounds_toArray, List.set_cons_zero, List.set_cons_succ]
        refine wpAnyH_done (by kernel_rfl) ?_ _
        have hB3 := hBW2.trans (hHeld.mono hBW2.size)
        by_cases c32 : 32 < n - k + 2
        · have f32 : (32 < (n : Int) - (k : Int) + 2) = True := eq_true (by omega)
          have hs := Lib.hid (H32'.out (by simpa using c32))
          clear c32
          go_wp2_with fail
          go_returns
          exact ⟨_, by rw [hs.out.1]; rfl, by rw [hs.out.2]; exact row_none, hB3, new_none _ _ _⟩
        · have f32 : (32 < (n : Int) - (k : Int) + 2) = False := eq_false (by omega)
          have hs := Lib.hid (H0'.out (by simpa using c32))
          clear c32
          go_wp2_with fail
          refine (stack_putN _ _ tt [y1, y0] _ (HTr.out.below intR_stable hB3) Hr3.out (by have := HDL.out.2; omega) (by simp)).mono ?_; rintro e w4 ⟨r, rfl, hr, hb4, hnw⟩; have Hnw := Lib.hid (hnw.low (w := w) hB3.size); clear hnw
          have Hr := Lib.hid hr
          have hB4 := hB3.trans (hb4.mono hB3.size)
          clear hr hb4
          go_wp2_with fail
          go_returns
          exact ⟨_, by rw [hs.out.1]; rfl, by rw [hs.out.2]; exact Hr.out, hB4, Hnw.out⟩
  have v27 : (o == 27) = false := by simpa using d27
  have v29 : (o == 29) = false := by simpa using d29
  clear d27 d29
  rcases HS1.out with ⟨⟨s1, s1b⟩, s2⟩ | ⟨s1, s1b⟩
  · skip
    go_enter Tryz.func79, Tryz.ntmps79
    go_wp2_with fail
    refine (HO.out _ (by (repeat' (first | (with_reducible exact Below.refl _ _) | (with_reducible assumption) | (with_reducible refine below_drewN ?_ _) | (with_reducible refine Below.alloc ?_ ?_ _) | (with_reducible refine Below.drew ?_) | (with_reducible refine Below.setCell ?_ ?_ _) | go_size)))).mono ?_; rintro e w1 ⟨rfl, hb1⟩
    rw [← HW0.out] at hb1
    have hb1w := k4.trans (hb1.mono k4.size)
    have e00 := (K1.out.keep z1 hb1) 0 _ rfl
    have e01 := (K1.out.keep z1 hb1) 1 _ rfl
    have e02 := (K1.out.keep z1 hb1) 2 _ rfl
    have e03 := (K1.out.keep z1 hb1) 3 _ rfl
    have e20 := (K2.out.keep k3 hb1) 0 _ rfl
    have e21 := (K2.out.keep k3 hb1) 1 _ rfl
    have e22 := (K2.out.keep k3 hb1) 2 _ rfl
    go_wp2_with fail
    refine (HE.out _ hb1w).mono ?_; rintro e w2 ⟨x1, x2, rfl, hx1, hx2, hb2⟩
    have hb2 := hb1.trans (hb2.mono hb1.size)
    have hB2 := k4.trans (hb2.mono k4.size)
    clear e00 e01 e02 e03 e20 e21 e22
    have E20 := (K2.out.keep k3 hb2) 0 _ rfl
    obtain ⟨xa, xc, rfl⟩ := row_get hx1
    obtain ⟨ya, yc, rfl⟩ := row_get hx2
    have HX1 := Lib.hid hx1
    have HX2 := Lib.hid hx2
    rw [hm] at HX1 ⊢
    have z2 : w.heap.size + 1 < w2.heap.size := Nat.lt_of_lt_of_le k3 hb2.size
    clear hx1 hx2 hb1 hb1w
    go_wp2_with fail
    go_loopw [53] (fun jj wr => ∃ k d : Nat, k ≤ m ∧ jj = .int .i64 k ∧ Hid (∀ j, j < k → tk.getD j 0 = 0 ∨ dd.getD j 0 = 0 ∨ tk.getD j 0 = dd.getD j 0) ∧ wr = w2.drewN d) (fun jj _ => m - (intOf jj).toNat)
    case atStart => exact ⟨0, 0, by omega, rfl, Lib.hid (fun j hj => by omega), rfl⟩
    case round =>
      obtain ⟨k, d, hk, rfl, hall, rfl⟩ := hrel
      by_cases hlt : k < m
      · obtain ⟨t, ht⟩ := get_some (L := tk) (n := k) (by have := HN.out.2; omega)
        obtain ⟨y, hy⟩ := get_some (L := dd) (n := k) (by have := HDL.out.1; omega)
        obtain ⟨bx, ox, rfl, hbx, hcx⟩ := ints_at HX1.out (lt_of_get ht)
        obtain ⟨g0, _⟩ := hcx k t ht
        obtain ⟨by', oy, rfl, hby, hcy⟩ := ints_at HDr.out (lt_of_get hy)
        obtain ⟨g1', _⟩ := hcy k y hy
        have g1 := (hB2.cell (p := ⟨by', oy + k, none⟩) hby).trans g1'
        have hk1 : ∀ (hh : t = 0 ∨ y = 0 ∨ t = y), ∀ j, j < k + 1 → tk.getD j 0 = 0 ∨ dd.getD j 0 = 0 ∨ tk.getD j 0 = dd.getD j 0 := by
          intro hh j hj
          by_cases hjk : j = k
          · subst hjk; simpa [List.getD, ht, hy] using hh
          · exact hall.out j (by omega)
        have HK1 := Lib.hid hk1
        have HNo := Lib.hid (fun a1 a2 a3 => H10.out (fitsT_no ht hy a1 a2 a3))
        clear hk1 hcx hcy ht hy g1'
        by_cases c1 : t = 0
        · have f1 : (t != 0) = false := by simp [c1]
          have hs := Lib.hid (HK1.out (Or.inl c1))
          clear c1
          go_wp2_with fail
          go_roundw
          case rel => exact ⟨k + 1, _, by omega, by simp, hs, rfl⟩
          case measure => first | (simp [intOf]; done) | (simp [intOf]; omega)
        · have f1 : (t != 0) = true := by simpa using c1
          by_cases c2 : y = 0
          · have f2 : (y != 0) = false := by simp [c2]
            have hs := Lib.hid (HK1.out (Or.inr (Or.inl c2)))
            clear c1 c2
            go_wp2_with fail
            go_roundw
            case rel => exact ⟨k + 1, _, by omega, by simp, hs, rfl⟩
            case measure => first | (simp [intOf]; done) | (simp [intOf]; omega)
          · have f2 : (y != 0) = true := by simpa using c2
            by_cases c3 : t = y
            · have f3 : (t != y) = false := by simp [c3]
              have hs := Lib.hid (HK1.out (Or.inr (Or.inr c3)))
              clear c1 c2 c3
              go_wp2_with fail
              go_roundw
              case rel => exact ⟨k + 1, _, by omega, by simp, hs, rfl⟩
              case measure => first | (simp [intOf]; done) | (simp [intOf]; omega)
            · have f3 : (t != y) = true := by simpa using c3
              have hs := Lib.hid (HNo.out c1 c2 c3)
              clear c1 c2 c3
              go_wp2_with fail
              go_returns
              exact ⟨_, by rw [hs.out.1]; rfl, by rw [hs.out.2]; exact row_none, below_drewN hB2 _, new_none _ _ _⟩
      · obtain rfl : k = m := by omega
        have HF := Lib.hid (fitsT_yes (tk := tk) (top := dd) (fun j hj => hall.out j (by have := HN.out.2; omega)))
        clear hall
        have hlv : lvS o lv dd = lv := by unfold lvS; rw [if_neg (by simpa using v27), if_neg (by simpa using v29)]
        have H32' := Lib.hid (H32.out HF.out)
        have H0' := Lib.hid (H0.out HF.out)
        rw [hlv] at H32' H0'
        clear hlv
        obtain ⟨q, hq⟩ : ∃ q, lv.length = q := ⟨_, rfl⟩
        rw [hq] at H32' H0' HX2 b2
        simp only [hq]
        have Hq := Lib.hid hq
        clear hq
        by_cases c32 : 32 < n - k + q
        · have f32 : (32 < (n : Int) - (k : Int) + (q : Int)) = True := eq_true (by omega)
          have hs := Lib.hid (H32'.out c32)
          clear c32
          go_wp2_with fail
          go_returns
          exact ⟨_, by rw [hs.out.1]; rfl, by rw [hs.out.2]; exact row_none, below_drewN hB2 _, new_none _ _ _⟩
        · have f32 : (32 < (n : Int) - (k : Int) + (q : Int)) = False := eq_false (by omega)
          have hs := Lib.hid (H0'.out c32)
          clear c32
          go_wp2_with fail
          refine (stack_putN _ _ tt lv _ (HTr.out.below intR_stable (below_drewN hB2 _)) (HX2.out.below intR_stable (Below_drewN _ _ _)) (by have := HDL.out.2; omega) (by have := Hq.out; omega)).mono ?_; rintro e w3 ⟨r, rfl, hr, hb3, hnw⟩; have Hnw := Lib.hid (hnw.low (w := w) (below_drewN hB2 _).size); clear hnw
          have Hr := Lib.hid hr
          have hB3 := (below_drewN hB2 d).trans (hb3.mono (below_drewN hB2 d).size)
          clear hr hb3
          go_wp2_with fail
          go_returns
          exact ⟨_, by rw [hs.out.1]; rfl, by rw [hs.out.2]; exact Hr.out, hB3, Hnw.out⟩
  · cases s2 : (o == 34)
    all_goals
      go_enter Tryz.func79, Tryz.ntmps79
      go_wp2_with fail
      refine (HO.out _ (by (repeat' (first | (with_reducible exact Below.refl _ _) | (with_reducible assumption) | (with_reducible refine below_drewN ?_ _) | (with_reducible refine Below.alloc ?_ ?_ _) | (with_reducible refine Below.drew ?_) | (with_reducible refine Below.setCell ?_ ?_ _) | go_size)))).mono ?_; rintro e w1 ⟨rfl, hb1⟩
      rw [← HW0.out] at hb1
      have hb1w := k4.trans (hb1.mono k4.size)
      have e00 := (K1.out.keep z1 hb1) 0 _ rfl
      have e01 := (K1.out.keep z1 hb1) 1 _ rfl
      have e02 := (K1.out.keep z1 hb1) 2 _ rfl
      have e03 := (K1.out.keep z1 hb1) 3 _ rfl
      have e20 := (K2.out.keep k3 hb1) 0 _ rfl
      have e21 := (K2.out.keep k3 hb1) 1 _ rfl
      have e22 := (K2.out.keep k3 hb1) 2 _ rfl
      go_wp2_with fail
      refine (HE.out _ hb1w).mono ?_; rintro e w2 ⟨x1, x2, rfl, hx1, hx2, hb2⟩
      have hb2 := hb1.trans (hb2.mono hb1.size)
      have hB2 := k4.trans (hb2.mono k4.size)
      clear e00 e01 e02 e03 e20 e21 e22
      have E20 := (K2.out.keep k3 hb2) 0 _ rfl
      obtain ⟨xa, xc, rfl⟩ := row_get hx1
      obtain ⟨ya, yc, rfl⟩ := row_get hx2
      have HX1 := Lib.hid hx1
      have HX2 := Lib.hid hx2
      rw [hm] at HX1 ⊢
      have z2 : w.heap.size + 1 < w2.heap.size := Nat.lt_of_lt_of_le k3 hb2.size
      clear hx1 hx2 hb1 hb1w
      go_wp2_with fail
      go_loopw [53] (fun jj wr => ∃ k d : Nat, k ≤ m ∧ jj = .int .i64 k ∧ Hid (∀ j, j < k → tk.getD j 0 = 0 ∨ dd.getD j 0 = 0 ∨ tk.getD j 0 = dd.getD j 0) ∧ wr = w2.drewN d) (fun jj _ => m - (intOf jj).toNat)
      case atStart => exact ⟨0, 0, by omega, rfl, Lib.hid (fun j hj => by omega), rfl⟩
      case round =>
        obtain ⟨k, d, hk, rfl, hall, rfl⟩ := hrel
        by_cases hlt : k < m
        · obtain ⟨t, ht⟩ := get_some (L := tk) (n := k) (by have := HN.out.2; omega)
          obtain ⟨y, hy⟩ := get_some (L := dd) (n := k) (by have := HDL.out.1; omega)
          obtain ⟨bx, ox, rfl, hbx, hcx⟩ := ints_at HX1.out (lt_of_get ht)
          obtain ⟨g0, _⟩ := hcx k t ht
          obtain ⟨by', oy, rfl, hby, hcy⟩ := ints_at HDr.out (lt_of_get hy)
          obtain ⟨g1', _⟩ := hcy k y hy
          have g1 := (hB2.cell (p := ⟨by', oy + k, none⟩) hby).trans g1'
          have hk1 : ∀ (hh : t = 0 ∨ y = 0 ∨ t = y), ∀ j, j < k + 1 → tk.getD j 0 = 0 ∨ dd.getD j 0 = 0 ∨ tk.getD j 0 = dd.getD j 0 := by
            intro hh j hj
            by_cases hjk : j = k
            · subst hjk; simpa [List.getD, ht, hy] using hh
            · exact hall.out j (by omega)
          have HK1 := Lib.hid hk1
          have HNo := Lib.hid (fun a1 a2 a3 => H10.out (fitsT_no ht hy a1 a2 a3))
          clear hk1 hcx hcy ht hy g1'
          by_cases c1 : t = 0
          · have f1 : (t != 0) = false := by simp [c1]
            have hs := Lib.hid (HK1.out (Or.inl c1))
            clear c1
            go_wp2_with fail
            go_roundw
            case rel => exact ⟨k + 1, _, by omega, by simp, hs, rfl⟩
            case measure => first | (simp [intOf]; done) | (simp [intOf]; omega)
          · have f1 : (t != 0) = true := by simpa using c1
            by_cases c2 : y = 0
            · have f2 : (y != 0) = false := by simp [c2]
              have hs := Lib.hid (HK1.out (Or.inr (Or.inl c2)))
              clear c1 c2
              go_wp2_with fail
              go_roundw
              case rel => exact ⟨k + 1, _, by omega, by simp, hs, rfl⟩
              case measure => first | (simp [intOf]; done) | (simp [intOf]; omega)
            · have f2 : (y != 0) = true := by simpa using c2
              by_cases c3 : t = y
              · have f3 : (t != y) = false := by simp [c3]
                have hs := Lib.hid (HK1.out (Or.inr (Or.inr c3)))
                clear c1 c2 c3
                go_wp2_with fail
                go_roundw
                case rel => exact ⟨k + 1, _, by omega, by simp, hs, rfl⟩
                case measure => first | (simp [intOf]; done) | (simp [intOf]; omega)
              · have f3 : (t != y) = true := by simpa using c3
                have hs := Lib.hid (HNo.out c1 c2 c3)
                clear c1 c2 c3
                go_wp2_with fail
                go_returns
                exact ⟨_, by rw [hs.out.1]; rfl, by rw [hs.out.2]; exact row_none, below_drewN hB2 _, new_none _ _ _⟩
        · obtain rfl : k = m := by omega
          have HF := Lib.hid (fitsT_yes (tk := tk) (top := dd) (fun j hj => hall.out j (by have := HN.out.2; omega)))
          clear hall
          have hlv : lvS o lv dd = lv := by unfold lvS; rw [if_neg (by simpa using v27), if_neg (by simpa using v29)]
          have H32' := Lib.hid (H32.out HF.out)
          have H0' := Lib.hid (H0.out HF.out)
          rw [hlv] at H32' H0'
          clear hlv
          obtain ⟨q, hq⟩ : ∃ q, lv.length = q := ⟨_, rfl⟩
          rw [hq] at H32' H0' HX2 b2
          simp only [hq]
          have Hq := Lib.hid hq
          clear hq
          by_cases c32 : 32 < n - k + q
          · have f32 : (32 < (n : Int) - (k : Int) + (q : Int)) = True := eq_true (by omega)
            have hs := Lib.hid (H32'.out c32)
            clear c32
            go_wp2_with fail
            go_returns
            exact ⟨_, by rw [hs.out.1]; rfl, by rw [hs.out.2]; exact row_none, below_drewN hB2 _, new_none _ _ _⟩
          · have f32 : (32 < (n : Int) - (k : Int) + (q : Int)) = False := eq_false (by omega)
            have hs := Lib.hid (H0'.out c32)
            clear c32
            go_wp2_with fail
            refine (stack_putN _ _ tt lv _ (HTr.out.below intR_stable (below_drewN hB2 _)) (HX2.out.below intR_stable (Below_drewN _ _ _)) (by have := HDL.out.2; omega) (by have := Hq.out; omega)).mono ?_; rintro e w3 ⟨r, rfl, hr, hb3, hnw⟩; have Hnw := Lib.hid (hnw.low (w := w) (below_drewN hB2 _).size); clear hnw
            have Hr := Lib.hid hr
            have hB3 := (below_drewN hB2 d).trans (hb3.mono (below_drewN hB2 d).size)
            clear hr hb3
            go_wp2_with fail
            go_returns
            exact ⟨_, by rw [hs.out.1]; rfl, by rw [hs.out.2]; exact Hr.out, hB3, Hnw.out⟩
end Go.Proofs.YtefejcofmopjfaaGreatDoor

/- Layer 18: where one may go on from a place. -/
namespace Go.Proofs.YtefejcofmopjfaaGreatDoor
open Go.RowKit
set_option linter.unusedSimpArgs false
set_option linter.unusedVariables false
def opAt (L : List Ins) (k : Nat) : Int := (L.getD k (0, 0, 0)).1
def armsP (L : List Ins) (pc : Nat) (a : Int) : Bool := (List.range a.toNat).all fun k => opAt L (pc + 1 + k) == 30
/-- what is wrong with where one goes on from an instruction whose operand isn't below 0 -/
def jumpP (L : List Ins) (pc : Nat) (o a : Int) : Int :=
  if o = 30 ∨ o = 31 then (if a < L.length then 0 else 11) else if o = 32 then (if a < (L.length : Int) - 1 - pc then (if armsP L pc a = true then 0 else 11) else 11) else 0
theorem jumpP_j {L : List Ins} {pc : Nat} {o a : Int} (h : o = 30 ∨ o = 31) : jumpP L pc o a = if a < L.length then 0 else 11 := if_pos h
theorem jumpP_s {L : List Ins} {pc : Nat} {a : Int} : jumpP L pc 32 a = if a < (L.length : Int) - 1 - pc then (if armsP L pc a = true then 0 else 11) else 11 := by unfold jumpP; rw [if_neg (by decide), if_pos rfl]
theorem jumpP_n {L : List Ins} {pc : Nat} {o a : Int} (h : ¬ (o = 30 ∨ o = 31)) (h2 : o ≠ 32) : jumpP L pc o a = 0 := by unfold jumpP; rw [if_neg h, if_neg h2]
theorem armsP_yes {L : List Ins} {pc : Nat} {a : Int} (h : ∀ k, k < a.toNat → opAt L (pc + 1 + k) = 30) : armsP L pc a = true := by
  unfold armsP; rw [List.all_eq_true]; intro k hk; rw [List.mem_range] at hk; rw [h k hk]; rfl
theorem armsP_no {L : List Ins} {pc : Nat} {a : Int} {k : Nat} (hk : k < a.toNat) (h : opAt L (pc + 1 + k) ≠ 30) : armsP L pc a = false := by
  rw [Bool.eq_false_iff]; intro ha
  unfold armsP at ha; rw [List.all_eq_true] at ha
  have := ha k (List.mem_range.2 hk)
  exact h (by simpa using this)
theorem code_at {w : World} {a : Option Addr} {n cap : Nat} {L : List Ins} (hv : RowR 3 insR w (.slice a n cap) L) {k : Nat} (hk : k < L.length) : ∃ b off, a = some ⟨b, off, none⟩ ∧ b < w.heap.size ∧ ∀ i x, L[i]? = some x → w.cell? ⟨b, off + i * 3, none⟩ = some (.int .i64 x.1) ∧ w.cell? ⟨b, off + i * 3 + 1, none⟩ = some (.int .i64 x.2.1) ∧ w.cell? ⟨b, off + i * 3 + 2, none⟩ = some (.int .i64 x.2.2) ∧ I64 x.1 ∧ I64 x.2.1 ∧ I64 x.2.2 := by
  obtain ⟨b, off, e, hb, h⟩ := row_at hv hk
  exact ⟨b, off, e, hb, fun i x hx => ins_cells h hx⟩
theorem opAt_get {L : List Ins} {k : Nat} {x : Ins} (h : L[k]? = some x) : opAt L k = x.1 := by unfold opAt; simp [List.getD, h]
set_option maxRecDepth 100000 in
set_option maxHeartbeats 4000000 in
theorem refs_Jump (v : Value) (L : List Ins) (pc : Nat) (x : Ins) (w : World) (h : RowR 3 insR w v L) (hx : L[pc]? = some x) (ha : 0 ≤ x.2.1) (hL : L.length ≤ 300) :
    Calls Tryz.prog 75 #[v, .int .i64 pc] w fun e w' => e = .returned (.int .i64 (jumpP L pc x.1 x.2.1)) ∧ Below w.heap.size w w' := by
  have cp := @cell_past
  obtain ⟨s, t, rfl⟩ := row_get h
  obtain ⟨b, off, rfl, hbw, hc⟩ := code_at h (lt_of_get hx)
  obtain ⟨c0, c1, c2, i0, i1, i2⟩ := hc pc x hx
  have hpc := lt_of_get hx
  have q0 : ((pc : Int) < 0) = False := eq_false (by omega)
  have q1 : ((L.length : Int) ≤ (pc : Int)) = False := eq_false (by omega)
  have q2 : ((pc : Int) < (L.length : Int)) = True := eq_true (by omega)
  obtain ⟨o, a, bb⟩ := x
  simp only at ha c0 c1 c2 i0 i1 i2 ⊢
  have r0 : (a < 0) = False := eq_false (by omega)
  by_cases d : o = 30 ∨ o = 31
  · have hj := jumpP_j (L := L) (pc := pc) (a := a) d
    by_cases g : a < L.length
    · have hs := Lib.hid (hj.trans (if_pos g))
      have g1 : (a < (L.length : Int)) = True := eq_true g
      have g2 : ((L.length : Int) ≤ a) = False := eq_false (by omega)
      generalize L.length = n at *
      clear hj hc h hx hpc g
      rcases d with rfl | rfl
      all_goals
        go_enter Tryz.func75, Tryz.ntmps75
        go_wp2_with fail
        go_ret
        exact ⟨by rw [hs.out]; rfl, by (repeat' (first | (with_reducible exact Below.refl _ _) | (with_reducible assumption) | (with_reducible refine below_drewN ?_ _) | (with_reducible refine Below.alloc ?_ ?_ _) | (with_reducible refine Below.drew ?_) | (with_reducible refine Below.setCell ?_ ?_ _) | go_size))⟩
    · have hs := Lib.hid (hj.trans (if_neg g))
      have g1 : (a < (L.length : Int)) = False := eq_false g
      have g2 : ((L.length : Int) ≤ a) = True := eq_true (by omega)
      generalize L.length = n at *
      clear hj hc h hx hpc g
      rcases d with rfl | rfl
      all_goals
        go_enter Tryz.func75, Tryz.ntmps75
        go_wp2_with fail
        go_ret
        exact ⟨by rw [hs.out]; rfl, by (repeat' (first | (with_reducible exact Below.refl _ _) | (with_reducible assumption) | (with_reducible refine below_drewN ?_ _) | (with_reducible refine Below.alloc ?_ ?_ _) | (with_reducible refine Below.drew ?_) | (with_reducible refine Below.setCell ?_ ?_ _) | go_size))⟩
  by_cases d2 : o = 32
  · subst d2
    have hj := jumpP_s (L := L) (pc := pc) (a := a)
    by_cases g : a < (L.length : Int) - 1 - pc
    · rw [if_pos g] at hj
      have HY := Lib.hid (fun hh => hj.trans (if_pos (armsP_yes (L := L) (pc := pc) (a := a) hh)))
      have HN := Lib.hid (fun k hk hh => hj.trans (if_neg (by rw [armsP_no (L := L) (pc := pc) (a := a) (k := k) hk hh]; decide)))
      have g2 : ((L.length : Int) - 1 - pc ≤ a) = False := eq_false (by omega)
      have HG := Lib.hid g
      obtain ⟨n, hn⟩ : ∃ n, L.length = n := ⟨_, rfl⟩
      have Hn := Lib.hid hn
      have Hc := Lib.hid hc
      clear hj g d hc h hx
      rw [hn] at HG q1 q2 g2 hpc hL
      rw [hn]
      clear hn
      go_enter Tryz.func75, Tryz.ntmps75
      go_wp2_with fail
      go_loopw [6] (fun jj wr => ∃ k : Nat, (k : Int) ≤ a ∧ jj = .int .i64 ((k : Int) + 1) ∧ Hid (∀ j, j < k → opAt L (pc + 1 + j) = 30) ∧ wr = w.alloc (.cells #[.int .i64 32, .int .i64 a, .int .i64 bb] 40)) (fun jj _ => (a + 1 - intOf jj).toNat)
      case atStart => exact ⟨0, by omega, rfl, Lib.hid (fun j hj => by omega), rfl⟩
      case round =>
        obtain ⟨k, hk, rfl, hall, rfl⟩ := hrel
        by_cases hlt : (k : Int) + 1 ≤ a
        · have m1 : ((k : Int) + 1 ≤ a) = True := eq_true hlt
          have hltH := Lib.hid hlt
          have hkn : pc + 1 + k < n := by have := HG.out; omega
          obtain ⟨y, hy⟩ := get_some (L := L) (n := pc + 1 + k) (by rw [Hn.out]; exact hkn)
          obtain ⟨y0, _⟩ := Hc.out _ y hy
          have hoy := opAt_get hy
          have m2 : (0 ≤ (pc : Int) + ((k : Int) + 1)) = True := eq_true (by omega)
          have m3 : ((pc : Int) + ((k : Int) + 1) < (n : Int)) = True := eq_true (by omega)
          have m4 : ((pc : Int) + ((k : Int) + 1)).toNat = pc + 1 + k := by omega
          by_cases g30 : y.1 = 30
          · have hs := Lib.hid (show ∀ j, j < k + 1 → opAt L (pc + 1 + j) = 30 by
              intro j hj
              by_cases hjk : j = k
              · rw [hjk, hoy, g30]
              · exact hall.out j (by omega))
            rw [g30] at y0
            clear hy hoy g30 hall hlt
            go_wp2_with fail
            go_roundw
            case rel => exact ⟨k + 1, by have := hltH.out; omega, by simp, hs, trivial⟩
            case measure => have := hltH.out; first | (simp [intOf]; done) | (simp [intOf]; omega)
          · have hs := Lib.hid (HN.out k (by omega) (by rw [hoy]; exact g30))
            have m5 : (y.1 != 30) = true := by simpa using g30
            generalize y.1 = yo at *
            clear hy hoy g30 hall hlt
            go_wp2_with fail
            go_ret
            exact ⟨by rw [hs.out]; rfl, by (repeat' (first | (with_reducible exact Below.refl _ _) | (with_reducible assumption) | (with_reducible refine below_drewN ?_ _) | (with_reducible refine Below.alloc ?_ ?_ _) | (with_reducible refine Below.drew ?_) | (with_reducible refine Below.setCell ?_ ?_ _) | go_size))⟩
        · have m1 : ((k : Int) + 1 ≤ a) = False := eq_false hlt
          have hs := Lib.hid (HY.out (fun j hj => hall.out j (by omega)))
          clear hall hlt
          go_wp2_with fail
          go_ret
          exact ⟨by rw [hs.out]; rfl, by (repeat' (first | (with_reducible exact Below.refl _ _) | (with_reducible assumption) | (with_reducible refine below_drewN ?_ _) | (with_reducible refine Below.alloc ?_ ?_ _) | (with_reducible refine Below.drew ?_) | (with_reducible refine Below.setCell ?_ ?_ _) | go_size))⟩
    · have hs := Lib.hid (hj.trans (if_neg g))
      have g2 : ((L.length : Int) - 1 - pc ≤ a) = True := eq_true (by omega)
      generalize L.length = n at *
      clear hj hc h hx g d
      go_enter Tryz.func75, Tryz.ntmps75
      go_wp2_with fail
      go_ret
      exact ⟨by rw [hs.out]; rfl, by (repeat' (first | (with_reducible exact Below.refl _ _) | (with_reducible assumption) | (with_reducible refine below_drewN ?_ _) | (with_reducible refine Below.alloc ?_ ?_ _) | (with_reducible refine Below.drew ?_) | (with_reducible refine Below.setCell ?_ ?_ _) | go_size))⟩
  · have hs := Lib.hid (jumpP_n (L := L) (pc := pc) (a := a) d d2)
    have v0 : (o == 30) = false := beq_eq_false_iff_ne.2 (fun q => d (Or.inl q))
    have v1 : (o == 31) = false := beq_eq_false_iff_ne.2 (fun q => d (Or.inr q))
    have v2 : (o == 32) = false := beq_eq_false_iff_ne.2 d2
    generalize L.length = n at *
    clear hc h hx hpc d d2
    go_enter Tryz.func75, Tryz.ntmps75
    go_wp2_with fail
    go_ret
    exact ⟨by rw [hs.out]; rfl, by (repeat' (first | (with_reducible exact Below.refl _ _) | (with_reducible assumption) | (with_reducible refine below_drewN ?_ _) | (with_reducible refine Below.alloc ?_ ?_ _) | (with_reducible refine Below.drew ?_) | (with_reducible refine Below.setCell ?_ ?_ _) | go_size))⟩
end Go.Proofs.YtefejcofmopjfaaGreatDoor

/- Layer 18: where one may go on from a place, by the answer. -/
namespace Go.Proofs.YtefejcofmopjfaaGreatDoor
open Go.RowKit
set_option linter.unusedSimpArgs false
set_option linter.unusedVariables false
set_option maxRecDepth 100000 in
set_option maxHeartbeats 4000000 in
theorem ref18_Jump (v : Value) (L : List Ins) (pc : Nat) (x : Ins) (w : World) (h : RowR 3 insR w v L) (hx : L[pc]? = some x) (ha : 0 ≤ x.2.1) (hL : L.length ≤ 300) :
    Calls Tryz.prog 41 #[v, .int .i64 pc] w fun e w' => e = .returned (.int .i64 (jumpP L pc x.1 x.2.1)) ∧ Below w.heap.size w w' := by
  have cp := @cell_past
  obtain ⟨s, t, rfl⟩ := row_get h
  obtain ⟨b, off, rfl, hbw, hc⟩ := code_at h (lt_of_get hx)
  obtain ⟨c0, c1, c2, i0, i1, i2⟩ := hc pc x hx
  have hpc := lt_of_get hx
  have q0 : ((pc : Int) < 0) = False := eq_false (by omega)
  have q1 : ((L.length : Int) ≤ (pc : Int)) = False := eq_false (by omega)
  have q2 : ((pc : Int) < (L.length : Int)) = True := eq_true (by omega)
  obtain ⟨o, a, bb⟩ := x
  simp only at ha c0 c1 c2 i0 i1 i2 ⊢
  have r0 : (a < 0) = False := eq_false (by omega)
  by_cases d : o = 30 ∨ o = 31
  · have hj := jumpP_j (L := L) (pc := pc) (a := a) d
    by_cases g : a < L.length
    · have hs := Lib.hid (hj.trans (if_pos g))
      have g1 : (a < (L.length : Int)) = True := eq_true g
      have g2 : ((L.length : Int) ≤ a) = False := eq_false (by omega)
      generalize L.length = n at *
      clear hj hc h hx hpc g
      rcases d with rfl | rfl
      all_goals
        go_enter Tryz.func41, Tryz.ntmps41
        go_wp2_with fail
        go_ret
        exact ⟨by rw [hs.out]; rfl, by (repeat' (first | (with_reducible exact Below.refl _ _) | (with_reducible assumption) | (with_reducible refine below_drewN ?_ _) | (with_reducible refine Below.alloc ?_ ?_ _) | (with_reducible refine Below.drew ?_) | (with_reducible refine Below.setCell ?_ ?_ _) | go_size))⟩
    · have hs := Lib.hid (hj.trans (if_neg g))
      have g1 : (a < (L.length : Int)) = False := eq_false g
      have g2 : ((L.length : Int) ≤ a) = True := eq_true (by omega)
      generalize L.length = n at *
      clear hj hc h hx hpc g
      rcases d with rfl | rfl
      all_goals
        go_enter Tryz.func41, Tryz.ntmps41
        go_wp2_with fail
        go_ret
        exact ⟨by rw [hs.out]; rfl, by (repeat' (first | (with_reducible exact Below.refl _ _) | (with_reducible assumption) | (with_reducible refine below_drewN ?_ _) | (with_reducible refine Below.alloc ?_ ?_ _) | (with_reducible refine Below.drew ?_) | (with_reducible refine Below.setCell ?_ ?_ _) | go_size))⟩
  by_cases d2 : o = 32
  · subst d2
    have hj := jumpP_s (L := L) (pc := pc) (a := a)
    by_cases g : a < (L.length : Int) - 1 - pc
    · rw [if_pos g] at hj
      have HY := Lib.hid (fun hh => hj.trans (if_pos (armsP_yes (L := L) (pc := pc) (a := a) hh)))
      have HN := Lib.hid (fun k hk hh => hj.trans (if_neg (by rw [armsP_no (L := L) (pc := pc) (a := a) (k := k) hk hh]; decide)))
      have g2 : ((L.length : Int) - pc - 1 ≤ a) = False := eq_false (by omega)
      have HG := Lib.hid g
      obtain ⟨n, hn⟩ : ∃ n, L.length = n := ⟨_, rfl⟩
      have Hn := Lib.hid hn
      have Hc := Lib.hid hc
      clear hj g d hc h hx
      rw [hn] at HG q1 q2 g2 hpc hL
      rw [hn]
      clear hn
      go_enter Tryz.func41, Tryz.ntmps41
      go_wp2_with fail
      go_loopw [6] (fun jj wr => ∃ k : Nat, (k : Int) ≤ a ∧ jj = .int .i64 (k : Int) ∧ Hid (∀ j, j < k → opAt L (pc + 1 + j) = 30) ∧ wr = w.alloc (.cells #[.int .i64 32, .int .i64 a, .int .i64 bb] 40)) (fun jj _ => (a - intOf jj).toNat)
      case atStart => exact ⟨0, by omega, rfl, Lib.hid (fun j hj => by omega), rfl⟩
      case round =>
        obtain ⟨k, hk, rfl, hall, rfl⟩ := hrel
        by_cases hlt : (k : Int) < a
        · have m1 : ((k : Int) < a) = True := eq_true hlt
          have hltH := Lib.hid hlt
          have hkn : pc + 1 + k < n := by have := HG.out; omega
          obtain ⟨y, hy⟩ := get_some (L := L) (n := pc + 1 + k) (by rw [Hn.out]; exact hkn)
          obtain ⟨y0, _⟩ := Hc.out _ y hy
          have hoy := opAt_get hy
          have m2 : (0 ≤ (pc : Int) + 1 + (k : Int)) = True := eq_true (by omega)
          have m3 : ((pc : Int) + 1 + (k : Int) < (n : Int)) = True := eq_true (by omega)
          have m4 : ((pc : Int) + 1 + (k : Int)).toNat = pc + 1 + k := by omega
          by_cases g30 : y.1 = 30
          · have hs := Lib.hid (show ∀ j, j < k + 1 → opAt L (pc + 1 + j) = 30 by
              intro j hj
              by_cases hjk : j = k
              · rw [hjk, hoy, g30]
              · exact hall.out j (by omega))
            rw [g30] at y0
            clear hy hoy g30 hall hlt
            go_wp2_with fail
            go_roundw
            case rel => exact ⟨k + 1, by have := hltH.out; omega, by simp, hs, trivial⟩
            case measure => have := hltH.out; first | (simp [intOf]; done) | (simp [intOf]; omega)
          · have hs := Lib.hid (HN.out k (by omega) (by rw [hoy]; exact g30))
            have m5 : (y.1 != 30) = true := by simpa using g30
            generalize y.1 = yo at *
            clear hy hoy g30 hall hlt
            go_wp2_with fail
            go_ret
            exact ⟨by rw [hs.out]; rfl, by (repeat' (first | (with_reducible exact Below.refl _ _) | (with_reducible assumption) | (with_reducible refine below_drewN ?_ _) | (with_reducible refine Below.alloc ?_ ?_ _) | (with_reducible refine Below.drew ?_) | (with_reducible refine Below.setCell ?_ ?_ _) | go_size))⟩
        · have m1 : ((k : Int) < a) = False := eq_false hlt
          have hs := Lib.hid (HY.out (fun j hj => hall.out j (by omega)))
          clear hall hlt
          go_wp2_with fail
          go_ret
          exact ⟨by rw [hs.out]; rfl, by (repeat' (first | (with_reducible exact Below.refl _ _) | (with_reducible assumption) | (with_reducible refine below_drewN ?_ _) | (with_reducible refine Below.alloc ?_ ?_ _) | (with_reducible refine Below.drew ?_) | (with_reducible refine Below.setCell ?_ ?_ _) | go_size))⟩
    · have hs := Lib.hid (hj.trans (if_neg g))
      have g2 : ((L.length : Int) - pc - 1 ≤ a) = True := eq_true (by omega)
      generalize L.length = n at *
      clear hj hc h hx g d
      go_enter Tryz.func41, Tryz.ntmps41
      go_wp2_with fail
      go_ret
      exact ⟨by rw [hs.out]; rfl, by (repeat' (first | (with_reducible exact Below.refl _ _) | (with_reducible assumption) | (with_reducible refine below_drewN ?_ _) | (with_reducible refine Below.alloc ?_ ?_ _) | (with_reducible refine Below.drew ?_) | (with_reducible refine Below.setCell ?_ ?_ _) | go_size))⟩
  · have hs := Lib.hid (jumpP_n (L := L) (pc := pc) (a := a) d d2)
    have v0 : (o == 30) = false := beq_eq_false_iff_ne.2 (fun q => d (Or.inl q))
    have v1 : (o == 31) = false := beq_eq_false_iff_ne.2 (fun q => d (Or.inr q))
    have v2 : (o != 32) = true := by simpa using d2
    generalize L.length = n at *
    clear hc h hx hpc d d2
    go_enter Tryz.func41, Tryz.ntmps41
    go_wp2_with fail
    go_ret
    exact ⟨by rw [hs.out]; rfl, by (repeat' (first | (with_reducible exact Below.refl _ _) | (with_reducible assumption) | (with_reducible refine below_drewN ?_ _) | (with_reducible refine Below.alloc ?_ ?_ _) | (with_reducible refine Below.drew ?_) | (with_reducible refine Below.setCell ?_ ?_ _) | go_size))⟩
end Go.Proofs.YtefejcofmopjfaaGreatDoor

/- Layer 18: the first instruction of a unit that has something that isn't there. -/
namespace Go.Proofs.YtefejcofmopjfaaGreatDoor
open Go.RowKit
set_option linter.unusedSimpArgs false
set_option linter.unusedVariables false
def errAt (p : Pr) (u : Int) (L : List Ins) (k : Nat) : Int :=
  let x := L.getD k (0, 0, 0)
  if oneP p u x.1 x.2.1 x.2.2 = 0 then jumpP L k x.1 x.2.1 else oneP p u x.1 x.2.1 x.2.2
def firstP (f : Nat → Int) (n : Nat) : Int × Int := match (List.range n).find? (fun k => f k != 0) with | some k => (k, f k) | none => (0, 0)
theorem find_range {f : Nat → Bool} : ∀ {n k : Nat}, k < n → (∀ j, j < k → f j = false) → f k = true → (List.range n).find? f = some k := by
  intro n
  induction n with
  | zero => intro k h; omega
  | succ n ih =>
    intro k h h1 h2
    rw [List.range_succ, List.find?_append]
    by_cases hk : k < n
    · rw [ih hk h1 h2]; rfl
    · obtain rfl : k = n := by omega
      have : (List.range k).find? f = none := by
        rw [List.find?_eq_none]; intro x hx; rw [List.mem_range] at hx; rw [h1 x hx]; decide
      rw [this]; simp [h2]
theorem firstP_hit {f : Nat → Int} {n k : Nat} (h : k < n) (h1 : ∀ j, j < k → f j = 0) (h2 : f k ≠ 0) : firstP f n = ((k : Int), f k) := by
  unfold firstP
  rw [find_range h (fun j hj => by simp [h1 j hj]) (by simpa using h2)]
theorem firstP_none {f : Nat → Int} {n : Nat} (h1 : ∀ j, j < n → f j = 0) : firstP f n = (0, 0) := by
  unfold firstP
  have : (List.range n).find? (fun k => f k != 0) = none := by
    rw [List.find?_eq_none]; intro x hx; rw [List.mem_range] at hx; rw [h1 x hx]; decide
  rw [this]
def chkP (p : Pr) (u : Int) : Int × Int := if ¬ (0 ≤ u ∧ u < p.units.length) then (0, 15) else firstP (errAt p u (unAt p u).code) (unAt p u).code.length
theorem chkP_u {p : Pr} {u : Int} (h : ¬ (0 ≤ u ∧ u < p.units.length)) : chkP p u = (0, 15) := if_pos h
theorem chkP_is {p : Pr} {u : Int} (h : 0 ≤ u ∧ u < p.units.length) : chkP p u = firstP (errAt p u (unAt p u).code) (unAt p u).code.length := if_neg (fun q => q h)
theorem oneP_zero {p : Pr} {u o a b : Int} (h : oneP p u o a b = 0) : 0 ≤ a := by
  unfold oneP at h
  split at h
  · omega
  · split at h
    · omega
    · rename_i h1 h2
      exact (oRight_pos (by simpa using h2)).2.1
theorem errAt_one {p : Pr} {u : Int} {L : List Ins} {k : Nat} {x : Ins} (hx : L[k]? = some x) (h : oneP p u x.1 x.2.1 x.2.2 ≠ 0) : errAt p u L k = oneP p u x.1 x.2.1 x.2.2 := by
  unfold errAt; rw [show L.getD k (0, 0, 0) = x by simp [List.getD, hx]]; exact if_neg h
theorem errAt_jump {p : Pr} {u : Int} {L : List Ins} {k : Nat} {x : Ins} (hx : L[k]? = some x) (h : oneP p u x.1 x.2.1 x.2.2 = 0) : errAt p u L k = jumpP L k x.1 x.2.1 := by
  unfold errAt; rw [show L.getD k (0, 0, 0) = x by simp [List.getD, hx]]; exact if_pos h
set_option maxRecDepth 100000 in
set_option maxHeartbeats 8000000 in
theorem refs_Check (pc pv pb pu : Value) (p : Pr) (u : Int) (w : World) (h : PrAt w pc pv pb pu p) (hT : TabR w) (hf : wideP p = true) :
    Calls Tryz.prog 55 #[.agg #[pc, pv, pb, pu], .int .i64 u] w fun e w' => e = .returned (.tuple #[.int .i64 (chkP p u).1, .int .i64 (chkP p u).2]) ∧ Below w.heap.size w w' := by
  have cp := @cell_past
  obtain ⟨⟨f0, f1, f2, f3⟩, _, _, f4⟩ := wideP_is hf
  have hun := h.us
  have HO := Lib.hid (fun (x : Ins) W (hb : Below w.heap.size w W) => refs_OneW pc pv pb pu p u x.1 x.2.1 x.2.2 W (h.below hb) (hT.below hb) hf)
  obtain ⟨s3, t3, rfl⟩ := row_get h.us
  clear h hT
  by_cases hu0 : u < 0
  · have hs := Lib.hid (chkP_u (p := p) (u := u) (by omega))
    generalize p.units.length = n3 at *
    have q0 : (u < 0) = True := eq_true hu0
    clear hu0
    go_enter Tryz.func55, Tryz.ntmps55
    go_wp2_with fail
    go_returns
    exact ⟨by rw [hs.out]; rfl, by (repeat' (first | (with_reducible exact Below.refl _ _) | (with_reducible assumption) | (with_reducible refine below_drewN ?_ _) | (with_reducible refine Below.alloc ?_ ?_ _) | (with_reducible refine Below.drew ?_) | (with_reducible refine Below.setCell ?_ ?_ _) | go_size))⟩
  have q0 : (u < 0) = False := eq_false hu0
  by_cases hu1 : u < p.units.length
  case neg =>
    have hs := Lib.hid (chkP_u (p := p) (u := u) (by omega))
    generalize p.units.length = n3 at *
    have q1 : ((n3 : Int) ≤ u) = True := eq_true (by omega)
    have q2 : (u < (n3 : Int)) = False := eq_false (by omega)
    clear hu0 hu1
    go_enter Tryz.func55, Tryz.ntmps55
    go_wp2_with fail
    go_returns
    exact ⟨by rw [hs.out]; rfl, by (repeat' (first | (with_reducible exact Below.refl _ _) | (with_reducible assumption) | (with_reducible refine below_drewN ?_ _) | (with_reducible refine Below.alloc ?_ ?_ _) | (with_reducible refine Below.drew ?_) | (with_reducible refine Below.setCell ?_ ?_ _) | go_size))⟩
  have q1 : ((p.units.length : Int) ≤ u) = False := eq_false (by omega)
  have q2 : (u < (p.units.length : Int)) = True := eq_true (by omega)
  have hc := chkP_is (p := p) (u := u) (by omega)
  obtain ⟨i, rfl⟩ := Int.eq_ofNat_of_zero_le (show 0 ≤ u by omega)
  obtain ⟨y, hy⟩ := get_some (L := p.units) (n := i) (by omega)
  have huy : unAt p i = y := by unfold unAt; simp [List.getD, hy]
  rw [huy] at hc
  obtain ⟨b3, off3, rfl, hbw3, hc3⟩ := unit_at hun (k := i) (lt_of_get hy)
  obtain ⟨u1, u3, u4, c0, c1, c2, c3, c4, hU⟩ := hc3 i y hy
  have hyf := (fewU_is (f4 y (List.mem_of_getElem? hy))).2.2.2
  have hcode := hU.cs
  generalize y.code = L at *
  have HC := Lib.hid hc
  have hi3 : i < p.units.length := by omega
  clear hc hc3 hU hy huy hun f4
  generalize p.units.length = n3 at *
  obtain ⟨sc, tc, rfl⟩ := row_get hcode
  obtain ⟨N, hN⟩ : ∃ N, L.length = N := ⟨_, rfl⟩
  have HN := Lib.hid hN
  have HCd := Lib.hid hcode
  rw [hN] at c4 hyf HCd
  clear hcode hN hu0 hu1
  go_enter Tryz.func55, Tryz.ntmps55
  go_wp2_with fail
  go_loopw [27] (fun jj wr => ∃ k : Nat, k ≤ N ∧ jj = .int .i64 k ∧ Hid (∀ j, j < k → errAt p i L j = 0) ∧ Hid (Below (w.heap.size + 1) (w.alloc (.cells #[pc, pv, pb, .slice (some ⟨b3, off3, none⟩) n3 t3] 27)) wr)) (fun jj _ => N - (intOf jj).toNat)
  case atStart => exact ⟨0, by omega, rfl, Lib.hid (fun j hj => by omega), Lib.hid (Below.refl _ _)⟩
  case round =>
    obtain ⟨k, hk, rfl, hall, hBw⟩ := hrel
    have z0 : w.heap.size < wr.heap.size := by have := hBw.out.size; simp at this; omega
    have hB0 : Below w.heap.size w wr := Below.trans (by (repeat' (first | (with_reducible exact Below.refl _ _) | (with_reducible assumption) | (with_reducible refine below_drewN ?_ _) | (with_reducible refine Below.alloc ?_ ?_ _) | (with_reducible refine Below.drew ?_) | (with_reducible refine Below.setCell ?_ ?_ _) | go_size))) (hBw.out.mono (by omega))
    have bx := Boxed.new w [pc, pv, pb, .slice (some ⟨b3, off3, none⟩) n3 t3] 27 hBw.out
    have e0 := bx 0 _ rfl
    have e1 := bx 1 _ rfl
    have e2 := bx 2 _ rfl
    have e3 := bx 3 _ rfl
    clear bx
    by_cases hlt : k < N
    · obtain ⟨x, hx⟩ := get_some (L := L) (n := k) (by rw [HN.out]; exact hlt)
      have HX := Lib.hid hx
      obtain ⟨bc, offc, rfl, hbc, hcc⟩ := code_at HCd.out (k := k) (lt_of_get hx)
      obtain ⟨x0', x1', x2', _⟩ := hcc k x hx
      have x0 := (hB0.cell (p := ⟨bc, offc + k * 3, none⟩) hbc).trans x0'
      have x1 := (hB0.cell (p := ⟨bc, offc + k * 3 + 1, none⟩) hbc).trans x1'
      have x2 := (hB0.cell (p := ⟨bc, offc + k * 3 + 2, none⟩) hbc).trans x2'
      have HO1 := Lib.hid (HO.out x)
      have HJ := Lib.hid (fun W (hb : Below w.heap.size w W) (hz : 0 ≤ x.2.1) => refs_Jump _ L k x W (HCd.out.below insR_stable hb) HX.out hz (by rw [HN.out]; exact hyf))
      have HE1 := Lib.hid (fun hh => errAt_one (p := p) (u := i) HX.out hh)
      have HE2 := Lib.hid (fun hh => errAt_jump (p := p) (u := i) HX.out hh)
      have HZ := Lib.hid (fun hh => oneP_zero (p := p) (u := i) (o := x.1) (a := x.2.1) (b := x.2.2) hh)
      obtain ⟨xo, xa, xb⟩ := x
      simp only at x0 x1 x2 HO1 HJ HE1 HE2 HZ
      clear hcc x0' x1' x2' hx
      go_wp2_with fail
      refine (HO1.out _ (Below.trans hB0 ((show Below wr.heap.size wr _ by (repeat' (first | (with_reducible exact Below.refl _ _) | (with_reducible assumption) | (with_reducible refine below_drewN ?_ _) | (with_reducible refine Below.alloc ?_ ?_ _) | (with_reducible refine Below.drew ?_) | (with_reducible refine Below.setCell ?_ ?_ _) | go_size))).mono hB0.size))).mono ?_; rintro e w1 ⟨rfl, hb1⟩
      have hb1 : Below wr.heap.size wr w1 := Below.trans (by (repeat' (first | (with_reducible exact Below.refl _ _) | (with_reducible assumption) | (with_reducible refine below_drewN ?_ _) | (with_reducible refine Below.alloc ?_ ?_ _) | (with_reducible refine Below.drew ?_) | (with_reducible refine Below.setCell ?_ ?_ _) | go_size))) (hb1.mono (by simp))
      by_cases g0 : oneP p i xo xa xb = 0
      · have HE := HE2.out g0
        have HJ := Lib.hid (fun W hb => HJ.out W hb (HZ.out g0))
        rw [g0]
        clear HE1 HE2 HZ
        go_wp2_with fail
        refine (HJ.out _ (hB0.trans (hb1.mono hB0.size))).mono ?_; rintro e w2 ⟨rfl, hb2⟩
        have hb2 := hb1.trans (hb2.mono hb1.size)
        generalize hj : jumpP L k xo xa = jv at *
        by_cases gj : jv = 0
        · subst gj
          have hs := Lib.hid (show ∀ j, j < k + 1 → errAt p i L j = 0 by
            intro j hjk
            by_cases hh : j = k
            · rw [hh]; exact HE
            · exact hall.out j (by omega))
          have hB2 := Lib.hid (Below.trans hBw.out (hb2.mono (by omega)))
          clear HE hall hj g0
          go_wp2_with fail
          go_roundw
          case rel => exact ⟨k + 1, by omega, by simp, hs, hB2⟩
          case measure => first | (simp [intOf]; done) | (simp [intOf]; omega)
        · have hs := Lib.hid (HC.out.trans (firstP_hit (by rw [HN.out]; exact hlt) hall.out (by rw [HE]; exact gj)))
          rw [HE] at hs
          have qj : (jv != 0) = true := by simpa using gj
          clear HE hall hj g0 gj
          go_wp2_with fail
          go_returns
          exact ⟨by rw [hs.out]; rfl, hB0.trans (hb2.mono hB0.size)⟩
      · have HE := HE1.out g0
        have hs := Lib.hid (HC.out.trans (firstP_hit (by rw [HN.out]; exact hlt) hall.out (by rw [HE]; exact g0)))
        rw [HE] at hs
        generalize oneP p i xo xa xb = ev at *
        have qj : (ev != 0) = true := by simpa using g0
        have qk : (ev == 0) = false := by simpa using g0
        clear HE hall g0 HE1 HE2 HZ HJ
        go_wp2_with fail
        go_returns
        exact ⟨by rw [hs.out]; rfl, hB0.trans (hb1.mono hB0.size)⟩
    · obtain rfl : k = N := by omega
      have hs := Lib.hid (HC.out.trans (firstP_none (by rw [HN.out]; exact hall.out)))
      clear hall
      go_wp2_with fail
      go_returns
      exact ⟨by rw [hs.out]; rfl, hB0⟩
set_option maxRecDepth 100000 in
set_option maxHeartbeats 8000000 in
theorem ref18_Check (pc pv pb pu : Value) (p : Pr) (u : Int) (w : World) (h : PrAt w pc pv pb pu p) (hT : TabR w) (hf : fewP p = true) :
    Calls Tryz.prog 27 #[.agg #[pc, pv, pb, pu], .int .i64 u] w fun e w' => e = .returned (.tuple #[.int .i64 (chkP p u).1, .int .i64 (chkP p u).2]) ∧ Below w.heap.size w w' := by
  have cp := @cell_past
  obtain ⟨⟨f0, f1, f2, f3⟩, _, _, f4⟩ := fewP_is hf
  have hun := h.us
  have HO := Lib.hid (fun (x : Ins) W (hb : Below w.heap.size w W) => ref18_One pc pv pb pu p u x.1 x.2.1 x.2.2 W (h.below hb) hf)
  obtain ⟨s3, t3, rfl⟩ := row_get h.us
  clear h hT
  by_cases hu0 : u < 0
  · have hs := Lib.hid (chkP_u (p := p) (u := u) (by omega))
    generalize p.units.length = n3 at *
    have q0 : (u < 0) = True := eq_true hu0
    clear hu0
    go_enter Tryz.func27, Tryz.ntmps27
    go_wp2_with fail
    go_returns
    exact ⟨by rw [hs.out]; rfl, by (repeat' (first | (with_reducible exact Below.refl _ _) | (with_reducible assumption) | (with_reducible refine below_drewN ?_ _) | (with_reducible refine Below.alloc ?_ ?_ _) | (with_reducible refine Below.drew ?_) | (with_reducible refine Below.setCell ?_ ?_ _) | go_size))⟩
  have q0 : (u < 0) = False := eq_false hu0
  by_cases hu1 : u < p.units.length
  case neg =>
    have hs := Lib.hid (chkP_u (p := p) (u := u) (by omega))
    generalize p.units.length = n3 at *
    have q1 : ((n3 : Int) ≤ u) = True := eq_true (by omega)
    have q2 : (u < (n3 : Int)) = False := eq_false (by omega)
    clear hu0 hu1
    go_enter Tryz.func27, Tryz.ntmps27
    go_wp2_with fail
    go_returns
    exact ⟨by rw [hs.out]; rfl, by (repeat' (first | (with_reducible exact Below.refl _ _) | (with_reducible assumption) | (with_reducible refine below_drewN ?_ _) | (with_reducible refine Below.alloc ?_ ?_ _) | (with_reducible refine Below.drew ?_) | (with_reducible refine Below.setCell ?_ ?_ _) | go_size))⟩
  have q1 : ((p.units.length : Int) ≤ u) = False := eq_false (by omega)
  have q2 : (u < (p.units.length : Int)) = True := eq_true (by omega)
  have hc := chkP_is (p := p) (u := u) (by omega)
  obtain ⟨i, rfl⟩ := Int.eq_ofNat_of_zero_le (show 0 ≤ u by omega)
  obtain ⟨y, hy⟩ := get_some (L := p.units) (n := i) (by omega)
  have huy : unAt p i = y := by unfold unAt; simp [List.getD, hy]
  rw [huy] at hc
  obtain ⟨b3, off3, rfl, hbw3, hc3⟩ := unit_at hun (k := i) (lt_of_get hy)
  obtain ⟨u1, u3, u4, c0, c1, c2, c3, c4, hU⟩ := hc3 i y hy
  have hyf := (fewU_is (f4 y (List.mem_of_getElem? hy))).2.2.2
  have hcode := hU.cs
  generalize y.code = L at *
  have HC := Lib.hid hc
  have hi3 : i < p.units.length := by omega
  clear hc hc3 hU hy huy hun f4
  generalize p.units.length = n3 at *
  obtain ⟨sc, tc, rfl⟩ := row_get hcode
  obtain ⟨N, hN⟩ : ∃ N, L.length = N := ⟨_, rfl⟩
  have HN := Lib.hid hN
  have HCd := Lib.hid hcode
  rw [hN] at c4 hyf HCd
  clear hcode hN hu0 hu1
  go_enter Tryz.func27, Tryz.ntmps27
  go_wp2_with fail
  go_loopw [7] (fun jj wr => ∃ k : Nat, k ≤ N ∧ jj = .int .i64 k ∧ Hid (∀ j, j < k → errAt p i L j = 0) ∧ Hid (Below (w.heap.size + 1) (w.alloc (.cells #[pc, pv, pb, .slice (some ⟨b3, off3, none⟩) n3 t3] 27)) wr)) (fun jj _ => N - (intOf jj).toNat)
  case atStart => exact ⟨0, by omega, rfl, Lib.hid (fun j hj => by omega), Lib.hid (Below.refl _ _)⟩
  case round =>
    obtain ⟨k, hk, rfl, hall, hBw⟩ := hrel
    have z0 : w.heap.size < wr.heap.size := by have := hBw.out.size; simp at this; omega
    have hB0 : Below w.heap.size w wr := Below.trans (by (repeat' (first | (with_reducible exact Below.refl _ _) | (with_reducible assumption) | (with_reducible refine below_drewN ?_ _) | (with_reducible refine Below.alloc ?_ ?_ _) | (with_reducible refine Below.drew ?_) | (with_reducible refine Below.setCell ?_ ?_ _) | go_size))) (hBw.out.mono (by omega))
    have bx := Boxed.new w [pc, pv, pb, .slice (some ⟨b3, off3, none⟩) n3 t3] 27 hBw.out
    have e0 := bx 0 _ rfl
    have e1 := bx 1 _ rfl
    have e2 := bx 2 _ rfl
    have e3 := bx 3 _ rfl
    clear bx
    by_cases hlt : k < N
    · obtain ⟨x, hx⟩ := get_some (L := L) (n := k) (by rw [HN.out]; exact hlt)
      have HX := Lib.hid hx
      obtain ⟨bc, offc, rfl, hbc, hcc⟩ := code_at HCd.out (k := k) (lt_of_get hx)
      obtain ⟨x0', x1', x2', _⟩ := hcc k x hx
      have x0 := (hB0.cell (p := ⟨bc, offc + k * 3, none⟩) hbc).trans x0'
      have x1 := (hB0.cell (p := ⟨bc, offc + k * 3 + 1, none⟩) hbc).trans x1'
      have x2 := (hB0.cell (p := ⟨bc, offc + k * 3 + 2, none⟩) hbc).trans x2'
      have HO1 := Lib.hid (HO.out x)
      have HJ := Lib.hid (fun W (hb : Below w.heap.size w W) (hz : 0 ≤ x.2.1) => ref18_Jump _ L k x W (HCd.out.below insR_stable hb) HX.out hz (by rw [HN.out]; exact hyf))
      have HE1 := Lib.hid (fun hh => errAt_one (p := p) (u := i) HX.out hh)
      have HE2 := Lib.hid (fun hh => errAt_jump (p := p) (u := i) HX.out hh)
      have HZ := Lib.hid (fun hh => oneP_zero (p := p) (u := i) (o := x.1) (a := x.2.1) (b := x.2.2) hh)
      obtain ⟨xo, xa, xb⟩ := x
      simp only at x0 x1 x2 HO1 HJ HE1 HE2 HZ
      clear hcc x0' x1' x2' hx
      have zc : bc < wr.heap.size := Nat.lt_of_lt_of_le hbc hB0.size
      go_wp2_with fail
      refine wp_region_held_drew (S := (fun w' => Below wr.heap.size wr w')) (by kernel_rfl) ?_ (fun hHeld => ?_)
      · (try dsimp only); first | assumption | exact Below.alloc hHeld hHeld.size _ | exact (Below.refl _ _).drew | exact Below.drew (Below.refl _ _) | exact Below_drewN _ _ _ | exact Below.refl _ _ | (trace_state; fail)
      refine wpAnyH_take (i := 0) (oi := { dst := some 30, op := Op.load 27 (Operand.tmp 2), type := 27, pos := _, after := #[], guard := none }) (v := ?_) rfl (by kernel_rfl) (by kernel_rfl) (by kernel_rfl) (fun _ _ _ h => h) (Or.inl ⟨by rfl, ?_⟩) (by assumption) ?_
      rotate_left
      · intro wt hSw; (try dsimp only at hSw); have e0 := cellB hSw e0 z0; have e1 := cellB hSw e1 z0; have e2 := cellB hSw e2 z0; have e3 := cellB hSw e3 z0; have x0 := cellB hSw x0 zc; have x1 := cellB hSw x1 zc; have x2 := cellB hSw x2 zc; first | (go_simp; done) | (go_simp; with_reducible rfl) | (trace_state; fail)
      try simp only [Act.put, List.setIfInBounds_toArray, List.set_cons_zero, List.set_cons_succ]
      refine wpAnyH_take (i := 1) (oi := { dst := some 31, op := Op.move (Operand.tmp 1), type := 3, pos := _, after := #[], guard := none }) (v := ?_) rfl (by kernel_rfl) (by kernel_rfl) (by kernel_rfl) (fun _ _ _ h => h) (Or.inl ⟨by rfl, ?_⟩) (by assumption) ?_
      rotate_left
      · intro wt hSw; (try dsimp only at hSw); have e0 := cellB hSw e0 z0; have e1 := cellB hSw e1 z0; have e2 := cellB hSw e2 z0; have e3 := cellB hSw e3 z0; have x0 := cellB hSw x0 zc; have x1 := cellB hSw x1 zc; have x2 := cellB hSw x2 zc; first | (go_simp; done) | (go_simp; with_reducible rfl) | (trace_state; fail)
      try simp only [Act.put, List.setIfInBounds_toArray, List.set_cons_zero, List.set_cons_succ]
      refine wpAnyH_take (i := 2) (oi := { dst := some 32, op := Op.move (Operand.tmp 6), type := 36, pos := _, after := #[], guard := none }) (v := ?_) rfl (by kernel_rfl) (by kernel_rfl) (by kernel_rfl) (fun _ _ _ h => h) (Or.inl ⟨by rfl, ?_⟩) (by assumption) ?_
      rotate_left
      · intro wt hSw; (try dsimp only at hSw); have e0 := cellB hSw e0 z0; have e1 := cellB hSw e1 z0; have e2 := cellB hSw e2 z0; have e3 := cellB hSw e3 z0; have x0 := cellB hSw x0 zc; have x1 := cellB hSw x1 zc; have x2 := cellB hSw x2 zc; first | (go_simp; done) | (go_simp; with_reducible rfl) | (trace_state; fail)
      try simp only [Act.put, List.setIfInBounds_toArray, List.set_cons_zero, List.set_cons_succ]
      refine wpAnyH_take (i := 3) (oi := { dst := some 33, op := Op.move (Operand.tmp 7), type := 3, pos := _, after := #[], guard := none }) (v := ?_) rfl (by kernel_rfl) (by kernel_rfl) (by kernel_rfl) (fun _ _ _ h => h) (Or.inl ⟨by rfl, ?_⟩) (by assumption) ?_
      rotate_left
      · intro wt hSw; (try dsimp only at hSw); have e0 := cellB hSw e0 z0; have e1 := cellB hSw e1 z0; have e2 := cellB hSw e2 z0; have e3 := cellB hSw e3 z0; have x0 := cellB hSw x0 zc; have x1 := cellB hSw x1 zc; have x2 := cellB hSw x2 zc; first | (go_simp; done) | (go_simp; with_reducible rfl) | (trace_state; fail)
      try simp only [Act.put, List.setIfInBounds_toArray, List.set_cons_zero, List.set_cons_succ]
      refine wpAnyH_take (i := 4) (oi := { dst := some 34, op := Op.indexAddr 36 (Operand.tmp 32) (Operand.tmp 33), type := 0, pos := _, after := #[{ on := 2, ground := Ground.data }, { on := 3, ground := Ground.data }], guard := none }) (v := ?_) rfl (by kernel_rfl) (by kernel_rfl) (by kernel_rfl) (fun _ _ _ h => h) (Or.inl ⟨by rfl, ?_⟩) (by assumption) ?_
      rotate_left
      · intro wt hSw; (try dsimp only at hSw); have e0 := cellB hSw e0 z0; have e1 := cellB hSw e1 z0; have e2 := cellB hSw e2 z0; have e3 := cellB hSw e3 z0; have x0 := cellB hSw x0 zc; have x1 := cellB hSw x1 zc; have x2 := cellB hSw x2 zc; first | (go_simp; done) | (go_simp; with_reducible rfl) | (trace_state; fail)
      try simp only [Act.put, List.setIfInBounds_toArray, List.set_cons_zero, List.set_cons_succ]
      refine wpAnyH_take (i := 5) (oi := { dst := some 35, op := Op.load 40 (Operand.tmp 34), type := 40, pos := _, after := #[{ on := 4, ground := Ground.data }], guard := none }) (v := ?_) rfl (by kernel_rfl) (by kernel_rfl) (by kernel_rfl) (fun _ _ _ h => h) (Or.inl ⟨by rfl, ?_⟩) (by assumption) ?_
      rotate_left
      · intro wt hSw; (try dsimp only at hSw); have e0 := cellB hSw e0 z0; have e1 := cellB hSw e1 z0; have e2 := cellB hSw e2 z0; have e3 := cellB hSw e3 z0; have x0 := cellB hSw x0 zc; have x1 := cellB hSw x1 zc; have x2 := cellB hSw x2 zc; first | (go_simp; done) | (go_simp; with_reducible rfl) | (trace_state; fail)
      try simp only [Act.put, List.setIfInBounds_toArray, List.set_cons_zero, List.set_cons_succ]
      refine wpAnyH_ready (rs := [6]) (by kernel_rfl) (by simp) ?_
      refine AllReadyH.cons (o := { dst := some 36, op := Op.call { callee := Callee.value (Operand.func 40), args := #[Operand.tmp 30, Operand.tmp 31, Operand.tmp 35], argTypes := #[27, 3, 40] }, type := 30, pos := _, after := #[{ on := 0, ground := Ground.data }, { on := 1, ground := Ground.data }, { on := 5, ground := Ground.data }], guard := none }) rfl (fun K hK => ?_) AllReadyH.nil
      go_simp
      refine (HO1.out _ (hB0.trans (hHeld.mono hB0.size))).mono ?_; rintro e w1 ⟨rfl, hb1⟩; have hHeld := hHeld.trans (hb1.mono hHeld.size); clear hb1
      go_wp2_with fail
      refine hK.out _ _ ?_ (fun hHeld => ?_)
      · (try dsimp only); first | assumption | exact Below.alloc hHeld hHeld.size _ | exact (Below.refl _ _).drew | exact Below.drew (Below.refl _ _) | exact Below_drewN _ _ _ | exact Below.refl _ _ | (trace_state; fail)
      clear hK K
      try simp only [Act.put, List.setIfInBounds_toArray, List.set_cons_zero, List.set_cons_succ]
      refine wpAnyH_take (i := 7) (oi := { dst := some 8, op := Op.assign (Operand.tmp 36), type := 30, pos := _, after := #[{ on := 6, ground := Ground.data }, { on := 6, ground := Ground.chain }, { on := 0, ground := Ground.phase }, { on := 1, ground := Ground.phase }, { on := 2, ground := Ground.phase }, { on := 3, ground := Ground.phase }, { on := 4, ground := Ground.phase }, { on := 5, ground := Ground.phase }, { on := 6, ground := Ground.phase }], guard := none }) (v := ?_) rfl (by kernel_rfl) (by kernel_rfl) (by kernel_rfl) (fun _ _ _ h => h) (Or.inl ⟨by rfl, ?_⟩) (by assumption) ?_
      rotate_left
      · intro wt hSw; (try dsimp only at hSw); have e0 := cellB hSw e0 z0; have e1 := cellB hSw e1 z0; have e2 := cellB hSw e2 z0; have e3 := cellB hSw e3 z0; have x0 := cellB hSw x0 zc; have x1 := cellB hSw x1 zc; have x2 := cellB hSw x2 zc; first | (go_simp; done) | (go_simp; with_reducible rfl) | (trace_state; fail)
      try simp only [Act.put, List.setIfInBounds_toArray, List.set_cons_zero, List.set_cons_succ]
      refine wpAnyH_done (by kernel_rfl) ?_ _
      have hb1 := hHeld
      clear hHeld
      by_cases g0 : oneP p i xo xa xb = 0
      · have HE := HE2.out g0
        have HJ := Lib.hid (fun W hb => HJ.out W hb (HZ.out g0))
        rw [g0]
        clear HE1 HE2 HZ
        go_wp2_with fail
        refine (HJ.out _ (hB0.trans (hb1.mono hB0.size))).mono ?_; rintro e w2 ⟨rfl, hb2⟩
        have hb2 := hb1.trans (hb2.mono hb1.size)
        generalize hj : jumpP L k xo xa = jv at *
        by_cases gj : jv = 0
        · subst gj
          have hs := Lib.hid (show ∀ j, j < k + 1 → errAt p i L j = 0 by
            intro j hjk
            by_cases hh : j = k
            · rw [hh]; exact HE
            · exact hall.out j (by omega))
          have hB2 := Lib.hid (Below.trans hBw.out (hb2.mono (by omega)))
          clear HE hall hj g0
          go_wp2_with fail
          go_roundw
          case rel => exact ⟨k + 1, by omega, by simp, hs, hB2⟩
          case measure => first | (simp [intOf]; done) | (simp [intOf]; omega)
        · have hs := Lib.hid (HC.out.trans (firstP_hit (by rw [HN.out]; exact hlt) hall.out (by rw [HE]; exact gj)))
          rw [HE] at hs
          have qj : (jv != 0) = true := by simpa using gj
          clear HE hall hj g0 gj
          go_wp2_with fail
          go_returns
          exact ⟨by rw [hs.out]; rfl, hB0.trans (hb2.mono hB0.size)⟩
      · have HE := HE1.out g0
        have hs := Lib.hid (HC.out.trans (firstP_hit (by rw [HN.out]; exact hlt) hall.out (by rw [HE]; exact g0)))
        rw [HE] at hs
        generalize oneP p i xo xa xb = ev at *
        have qj : (ev != 0) = true := by simpa using g0
        have qk : (ev == 0) = false := by simpa using g0
        clear HE hall g0 HE1 HE2 HZ HJ
        go_wp2_with fail
        go_returns
        exact ⟨by rw [hs.out]; rfl, hB0.trans (hb1.mono hB0.size)⟩
    · obtain rfl : k = N := by omega
      have hs := Lib.hid (HC.out.trans (firstP_none (by rw [HN.out]; exact hall.out)))
      clear hall
      go_wp2_with fail
      go_returns
      exact ⟨by rw [hs.out]; rfl, hB0⟩
end Go.Proofs.YtefejcofmopjfaaGreatDoor
