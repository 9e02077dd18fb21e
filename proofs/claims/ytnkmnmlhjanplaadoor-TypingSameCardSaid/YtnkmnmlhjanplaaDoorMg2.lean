/- Merged texts: TyVisit, TyEnt, TyHigh, LawTySm. -/
import Derived.Test.YtnkmnmlhjanplaaDoorMg0
import Derived.Test.YtnkmnmlhjanplaaDoorMg1
import Derived.Test.YtnkmnmlhjanplaaDoorStackStepN
import Derived.Laws.EntriesVeiled
import Derived.Deep.LoopGhost
import Derived.Test.YtnkmnmlhjanplaaDoorFewP
import Derived.Test.YtnkmnmlhjanplaaDoorInts
/- typing.walk: visit. -/
namespace Go.Proofs.YtnkmnmlhjanplaaDoor
open Go.RowKit
set_option linter.unusedSimpArgs false
set_option linter.unusedVariables false
def tyE (p : Pr) (u : Int) (L : List Ins) : TY.Env := ⟨L.length, fun pc st => stepE p u (L.getD pc (0, 0, 0)).1 (L.getD pc (0, 0, 0)).2.1 (L.getD pc (0, 0, 0)).2.2 st, fun pc st => stepS p u (L.getD pc (0, 0, 0)).1 (L.getD pc (0, 0, 0)).2.1 (L.getD pc (0, 0, 0)).2.2 st, fun pc => behL (L.getD pc (0, 0, 0)) pc⟩
/-- operands that Behind takes -/
def OkL (L : List Ins) : Prop := ∀ (k : Nat) (x : Ins), L[k]? = some x → (0 ≤ x.2.1 ∧ x.2.1 ≤ 65535) ∧ (x.1 = 32 → x.2.1 ≤ L.length)
theorem stepS_len (p : Pr) (u o a b : Int) (st : List Int) : (stepS p u o a b st).length ≤ 32 := by
  unfold stepS
  split
  · unfold stpS
    split
    · rename_i h
      unfold stpE at h
      split at h
      · cases h
      · split at h
        · cases h
        · split at h
          · cases h
          · rename_i h3
            rw [List.length_append, List.length_take]
            omega
    · simp
  · simp
theorem behL_len {x : Ins} (k : Nat) (h : x.2.1 ≤ 65535) : (behL x k).length ≤ 70000 := by
  unfold behL two
  repeat' split
  all_goals first | (simp; done) | (simp; omega)
/-- a row in blocks that stay -/
theorem row_range {w v2 wr : World} {v : Value} {l : List Int} (h : RowR 1 intR v2 v l) (hn : NewIn w v) (hk : ∀ k, w.heap.size ≤ k → k < v2.heap.size → wr.heap[k]? = v2.heap[k]?) (hs : v2.heap.size ≤ wr.heap.size) : RowR 1 intR wr v l := by
  rcases h with h | ⟨b, off, cap, h1, h2, h3, h4, h5, h6⟩
  · exact Or.inl h
  · refine Or.inr ⟨b, off, cap, h1, h2, h3, h4, Nat.lt_of_lt_of_le h5 hs, fun i x hx => ?_⟩
    obtain ⟨C, g1, g2, g3⟩ := h6 i x hx
    exact ⟨C, g1, fun j u hu => (World.cell?_of_block (hk b (hn _ _ _ h1) h5)).trans (g2 j u hu), g3⟩
set_option maxRecDepth 100000 in
set_option maxHeartbeats 1000000 in
theorem visit_there (z : Int) (hz : I64 z) (bx G n : Nat) (a : Option Addr) (c : Nat) (W : World) (hb : W.cell? ⟨bx, 0, none⟩ = some (.pointer (some ⟨G, 0, none⟩))) (hc : W.cell? ⟨G, 5, none⟩ = some (.slice a n c)) :
    Calls Tryd.prog 29 #[.int .i64 z, .pointer (some ⟨bx, 0, none⟩)] W fun e w' => e = .returned (.bool (decide (TY.inB n z))) ∧ w' = W := by
  obtain ⟨Z, hZ⟩ : ∃ Z, decide (TY.inB n z) = Z := ⟨_, rfl⟩
  have HZ := Lib.hid hZ
  rw [hZ]
  clear hZ
  by_cases h0 : z < 0
  · have q1 : (z < 0) = True := eq_true h0
    have q2 : (0 ≤ z) = False := eq_false (by omega)
    have HR := Lib.hid (show Z = false by rw [← HZ.out]; exact decide_eq_false (fun h => by unfold TY.inB at h; omega))
    clear h0
    go_enter Tryd.func29, Tryd.ntmps29
    go_wp2_with fail
    go_ret
    exact ⟨by rw [HR.out]; rfl, rfl⟩
  · have q1 : (z < 0) = False := eq_false h0
    have q2 : (0 ≤ z) = True := eq_true (by omega)
    by_cases h1 : z < n
    · have q3 : (z < (n : Int)) = True := eq_true h1
      have HR := Lib.hid (show Z = true by rw [← HZ.out]; exact decide_eq_true (show TY.inB n z from ⟨by omega, h1⟩))
      clear h0 h1
      go_enter Tryd.func29, Tryd.ntmps29
      go_wp2_with fail
      go_ret
      exact ⟨by rw [HR.out]; rfl, rfl⟩
    · have q3 : (z < (n : Int)) = False := eq_false h1
      have HR := Lib.hid (show Z = false by rw [← HZ.out]; exact decide_eq_false (fun h => h1 h.2))
      clear h0 h1
      go_enter Tryd.func29, Tryd.ntmps29
      go_wp2_with fail
      go_ret
      exact ⟨by rw [HR.out]; rfl, rfl⟩
/-- what visit leaves -/
def VisQ (B G gS gR n : Nat) (h : Hd) (Z : Int × WS) (w : World) (e : Ending) (w' : World) : Prop := e = .returned (.int .i64 Z.1) ∧ ∃ vQ' U', WAt B G gS gR n h vQ' U' Z.2 w' ∧ Below B w w'
set_option maxRecDepth 100000 in
set_option maxHeartbeats 4000000 in
theorem walk_visit {B G gS gR n : Nat} {vQ : Value} {U : List Value} {s : WS} {w : World} {cv pv bv uv vc : Value} {p : Pr} {u : Int} {L : List Ins} (k : WAt B G gS gR n ⟨cv, pv, bv, uv, .int .i64 u, vc⟩ vQ U s w) (hP : PrAt w cv pv bv uv p) (hT : TabR w) (hBt : BTab w) (hf : fewP p = true) (hc : RowR 3 insR w vc L) (hLn : L.length = n) (hn : n ≤ 300) (hOk : OkL L) (pc : Nat) (hpc : pc < n) (hF : TY.Fit n s) :
    Calls Tryd.prog 17 #[.pointer (some ⟨G, 0, none⟩), .int .i64 (pc : Int)] w (VisQ B G gS gR n ⟨cv, pv, bv, uv, .int .i64 u, vc⟩ (TY.visitF (tyE p u L) pc s) w) := by
  obtain ⟨x, hx⟩ := get_some (L := L) (n := pc) (by omega)
  have hxd : L.getD pc (0, 0, 0) = x := by simp [List.getD, hx]
  obtain ⟨hA, h32⟩ := hOk pc x hx
  obtain ⟨ca, cc, rfl⟩ := bh_get hc
  obtain ⟨l1, l2, l3⟩ := k.len
  obtain ⟨vu, hvu⟩ := get_some (L := U) (n := pc) (by omega)
  obtain ⟨st, hst, hro⟩ := row_of k.rows hvu
  have hstd : s.stacks.getD pc [] = st := by simp [List.getD, hst]
  have hfit := k.fit st (List.mem_of_getElem? hst)
  have hrow : RowR 1 intR w vu st := row_of_owns hro hfit.2
  obtain ⟨W1, hW1⟩ : ∃ W1, W1 = w.alloc (.cells #[.pointer (some ⟨G, 0, none⟩)] 54) := ⟨_, rfl⟩
  have hbW : Below w.heap.size w W1 := by rw [hW1]; exact (Below.refl _ _).alloc (Nat.le_refl _) _
  have hbx : W1.heap[w.heap.size]? = some (.cells #[.pointer (some ⟨G, 0, none⟩)] 54 (0, 0)) := by rw [hW1]; exact get_last rfl
  have k1 := k.below hbW
  have eb := obj_cell (i := 0) hbx rfl
  have zb : w.heap.size < W1.heap.size := heap_lt hbx
  have e0 : W1.cell? ⟨G, 0, none⟩ = some cv := obj_cell k1.obj rfl
  have e1 : W1.cell? ⟨G, 1, none⟩ = some pv := obj_cell k1.obj rfl
  have e2 : W1.cell? ⟨G, 2, none⟩ = some bv := obj_cell k1.obj rfl
  have e3 : W1.cell? ⟨G, 3, none⟩ = some uv := obj_cell k1.obj rfl
  have e4 : W1.cell? ⟨G, 4, none⟩ = some (.int .i64 u) := obj_cell k1.obj rfl
  have e5 : W1.cell? ⟨G, 5, none⟩ = some (.slice ca L.length cc) := obj_cell k1.obj rfl
  have e6 : W1.cell? ⟨G, 6, none⟩ = some (.slice (some ⟨gS, 0, none⟩) n n) := obj_cell k1.obj rfl
  have zG : G < W1.heap.size := heap_lt k1.obj
  have s0 : W1.cell? ⟨gS, pc, none⟩ = some vu := (k1.st.cellAt pc (by omega)).trans hvu
  have zS : gS < W1.heap.size := (owns_lt k1.st rfl).2
  obtain ⟨bc, oc, rfl, hbc, hcc⟩ := bh_at hc (k := pc) (by omega)
  obtain ⟨k0, k1', k2, i0, i1, i2⟩ := hcc pc x hx
  have k0 := cellB hbW k0 hbc
  have k2 := cellB hbW k2 hbc
  have k1c := cellB hbW k1' hbc
  have zc : bc < W1.heap.size := Nat.lt_of_lt_of_le hbc hbW.size
  have HStp := Lib.hid (fun W (hb : Below W1.heap.size W1 W) => stack_StepN cv pv bv uv p u x.1 x.2.1 x.2.2 vu st W ((hP.below hbW).below hb) ((hT.below hbW).below hb) ((hBt.below hbW).below hb) hf i1 i2 ((hrow.below intR_stable hbW).below intR_stable hb) (by have := hfit.1; omega))
  have HK1 := Lib.hid k1
  have HcW := Lib.hid (hc.below insR_stable hbW)
  have Hx := Lib.hid hx
  have HBh := Lib.hid (fun W (hb : Below W1.heap.size W1 W) => typing_BehindN (.slice (some ⟨bc, oc, none⟩) L.length cc) L pc x W (HcW.out.below insR_stable hb) hx (by omega) hA h32)
  have HZv := Lib.hid (show TY.visitF (tyE p u L) pc s = if ¬ stepE p u x.1 x.2.1 x.2.2 st = 0 then (stepE p u x.1 x.2.1 x.2.2 st, s) else if ¬ (∀ z ∈ behL x pc, TY.inB L.length z) then (11, s) else TY.goF (stepS p u x.1 x.2.1 x.2.2 st) (behL x pc) s by
    unfold TY.visitF tyE
    simp only [hxd, hstd])
  have Hbl := Lib.hid (behL_len (x := x) pc hA.2)
  have Hsl := Lib.hid (stepS_len p u x.1 x.2.1 x.2.2 st)
  obtain ⟨Z, hZ⟩ : ∃ Z, TY.visitF (tyE p u L) pc s = Z := ⟨_, rfl⟩
  rw [hZ] at HZv ⊢
  obtain ⟨E1, hE1⟩ : ∃ e, stepE p u x.1 x.2.1 x.2.2 st = e := ⟨_, rfl⟩
  obtain ⟨ST, hST⟩ : ∃ e, stepS p u x.1 x.2.1 x.2.2 st = e := ⟨_, rfl⟩
  rw [hE1, hST] at HZv HStp
  rw [hST] at Hsl
  obtain ⟨BL, hBL⟩ : ∃ e, behL x pc = e := ⟨_, rfl⟩
  rw [hBL] at HZv HBh Hbl
  have HF := Lib.hid hF
  have HLow := Lib.hid k.low
  have HVq := Lib.hid (show ∀ g, vQ.ownBlock = some g → g < w.heap.size from fun g hg => (owns_lt k.qu hg).2)
  have HGs := Lib.hid (show G < w.heap.size ∧ gS < w.heap.size ∧ gR < w.heap.size from ⟨heap_lt k.obj, (owns_lt k.st rfl).2, (owns_lt k.re rfl).2⟩)
  have HN := Lib.hid (And.intro hn hpc)
  have HbW := Lib.hid hbW
  have Hbx := Lib.hid hbx
  have HW1 := Lib.hid hW1
  have Hsz := Lib.hid hbW.size
  obtain ⟨xo, xa, xb⟩ := x
  simp only at k0 k1c k2 HStp HBh
  rw [hLn] at e5 HBh HZv
  have HLn := Lib.hid hLn
  have q1 : ((pc : Int) < (n : Int)) = True := eq_true (by omega)
  have q1' : (pc < n) = True := eq_true hpc
  clear k k1 hP hT hBt hc hOk hx hxd hA h32 l1 l2 l3 hvu hst hro hstd hfit hrow hbW hbx hbc hcc i0 i1 i2 k1' hZ hE1 hST hBL hF hn hpc hLn hf
  have k1 := k1c
  clear k1c
  go_enter Tryd.func17, Tryd.ntmps17
  go_wp2_with fail
  rw [← HW1.out]
  clear hW1
  refine wp_region_held_drew (S := (fun w' => Below W1.heap.size W1 w')) (by kernel_rfl) ?_ (fun hHeld => ?_)
  · (try dsimp only); first | assumption | exact Below.alloc hHeld hHeld.size _ | exact (Below.refl _ _).drew | exact Below.drew (Below.refl _ _) | exact Below_drewN _ _ _ | exact Below.refl _ _ | (trace_state; fail)
  refine wpAnyH_take (i := 0) (oi := { dst := some 15, op := Op.load 54 (Operand.tmp 2), type := 54, pos := _, after := #[], guard := none }) (v := ?_) rfl (by kernel_rfl) (by kernel_rfl) (by kernel_rfl) (fun _ _ _ h => h) (Or.inl ⟨by rfl, ?_⟩) (by assumption) ?_
  rotate_left
  · intro wt hSw; (try dsimp only at hSw); have eb := cellB hSw eb zb; have e0 := cellB hSw e0 zG; have e1 := cellB hSw e1 zG; have e2 := cellB hSw e2 zG; have e3 := cellB hSw e3 zG; have e4 := cellB hSw e4 zG; have e5 := cellB hSw e5 zG; have e6 := cellB hSw e6 zG; have k0 := cellB hSw k0 zc; have k1 := cellB hSw k1 zc; have k2 := cellB hSw k2 zc; have s0 := cellB hSw s0 zS; first | (go_simp; done) | (go_simp; with_reducible rfl) | (trace_state; fail)
  try simp only [Act.put, List.setIfInBounds_toArray, List.set_cons_zero, List.set_cons_succ]
  refine wpAnyH_take (i := 1) (oi := { dst := some 16, op := Op.nilCheck (Operand.tmp 15), type := 0, pos := _, after := #[{ on := 0, ground := Ground.data }], guard := none }) (v := ?_) rfl (by kernel_rfl) (by kernel_rfl) (by kernel_rfl) (fun _ _ _ h => h) (Or.inl ⟨by rfl, ?_⟩) (by assumption) ?_
  rotate_left
  · intro wt hSw; (try dsimp only at hSw); have eb := cellB hSw eb zb; have e0 := cellB hSw e0 zG; have e1 := cellB hSw e1 zG; have e2 := cellB hSw e2 zG; have e3 := cellB hSw e3 zG; have e4 := cellB hSw e4 zG; have e5 := cellB hSw e5 zG; have e6 := cellB hSw e6 zG; have k0 := cellB hSw k0 zc; have k1 := cellB hSw k1 zc; have k2 := cellB hSw k2 zc; have s0 := cellB hSw s0 zS; first | (go_simp; done) | (go_simp; with_reducible rfl) | (trace_state; fail)
  try simp only [Act.put, List.setIfInBounds_toArray, List.set_cons_zero, List.set_cons_succ]
  refine wpAnyH_take (i := 2) (oi := { dst := some 17, op := Op.fieldAddr 57 (Operand.tmp 16) 0, type := 0, pos := _, after := #[{ on := 1, ground := Ground.data }], guard := none }) (v := ?_) rfl (by kernel_rfl) (by kernel_rfl) (by kernel_rfl) (fun _ _ _ h => h) (Or.inl ⟨by rfl, ?_⟩) (by assumption) ?_
  rotate_left
  · intro wt hSw; (try dsimp only at hSw); have eb := cellB hSw eb zb; have e0 := cellB hSw e0 zG; have e1 := cellB hSw e1 zG; have e2 := cellB hSw e2 zG; have e3 := cellB hSw e3 zG; have e4 := cellB hSw e4 zG; have e5 := cellB hSw e5 zG; have e6 := cellB hSw e6 zG; have k0 := cellB hSw k0 zc; have k1 := cellB hSw k1 zc; have k2 := cellB hSw k2 zc; have s0 := cellB hSw s0 zS; first | (go_simp; done) | (go_simp; with_reducible rfl) | (trace_state; fail)
  try simp only [Act.put, List.setIfInBounds_toArray, List.set_cons_zero, List.set_cons_succ]
  refine wpAnyH_take (i := 3) (oi := { dst := some 18, op := Op.load 27 (Operand.tmp 17), type := 27, pos := _, after := #[{ on := 2, ground := Ground.data }], guard := none }) (v := ?_) rfl (by kernel_rfl) (by kernel_rfl) (by kernel_rfl) (fun _ _ _ h => h) (Or.inl ⟨by rfl, ?_⟩) (by assumption) ?_
  rotate_left
  · intro wt hSw; (try dsimp only at hSw); have eb := cellB hSw eb zb; have e0 := cellB hSw e0 zG; have e1 := cellB hSw e1 zG; have e2 := cellB hSw e2 zG; have e3 := cellB hSw e3 zG; have e4 := cellB hSw e4 zG; have e5 := cellB hSw e5 zG; have e6 := cellB hSw e6 zG; have k0 := cellB hSw k0 zc; have k1 := cellB hSw k1 zc; have k2 := cellB hSw k2 zc; have s0 := cellB hSw s0 zS; first | (go_simp; done) | (go_simp; with_reducible rfl) | (trace_state; fail)
  try simp only [Act.put, List.setIfInBounds_toArray, List.set_cons_zero, List.set_cons_succ]
  refine wpAnyH_take (i := 4) (oi := { dst := some 19, op := Op.load 54 (Operand.tmp 2), type := 54, pos := _, after := #[], guard := none }) (v := ?_) rfl (by kernel_rfl) (by kernel_rfl) (by kernel_rfl) (fun _ _ _ h => h) (Or.inl ⟨by rfl, ?_⟩) (by assumption) ?_
  rotate_left
  · intro wt hSw; (try dsimp only at hSw); have eb := cellB hSw eb zb; have e0 := cellB hSw e0 zG; have e1 := cellB hSw e1 zG; have e2 := cellB hSw e2 zG; have e3 := cellB hSw e3 zG; have e4 := cellB hSw e4 zG; have e5 := cellB hSw e5 zG; have e6 := cellB hSw e6 zG; have k0 := cellB hSw k0 zc; have k1 := cellB hSw k1 zc; have k2 := cellB hSw k2 zc; have s0 := cellB hSw s0 zS; first | (go_simp; done) | (go_simp; with_reducible rfl) | (trace_state; fail)
  try simp only [Act.put, List.setIfInBounds_toArray, List.set_cons_zero, List.set_cons_succ]
  refine wpAnyH_take (i := 5) (oi := { dst := some 20, op := Op.nilCheck (Operand.tmp 19), type := 0, pos := _, after := #[{ on := 4, ground := Ground.data }], guard := none }) (v := ?_) rfl (by kernel_rfl) (by kernel_rfl) (by kernel_rfl) (fun _ _ _ h => h) (Or.inl ⟨by rfl, ?_⟩) (by assumption) ?_
  rotate_left
  · intro wt hSw; (try dsimp only at hSw); have eb := cellB hSw eb zb; have e0 := cellB hSw e0 zG; have e1 := cellB hSw e1 zG; have e2 := cellB hSw e2 zG; have e3 := cellB hSw e3 zG; have e4 := cellB hSw e4 zG; have e5 := cellB hSw e5 zG; have e6 := cellB hSw e6 zG; have k0 := cellB hSw k0 zc; have k1 := cellB hSw k1 zc; have k2 := cellB hSw k2 zc; have s0 := cellB hSw s0 zS; first | (go_simp; done) | (go_simp; with_reducible rfl) | (trace_state; fail)
  try simp only [Act.put, List.setIfInBounds_toArray, List.set_cons_zero, List.set_cons_succ]
  refine wpAnyH_take (i := 6) (oi := { dst := some 21, op := Op.fieldAddr 57 (Operand.tmp 20) 1, type := 0, pos := _, after := #[{ on := 5, ground := Ground.data }], guard := none }) (v := ?_) rfl (by kernel_rfl) (by kernel_rfl) (by kernel_rfl) (fun _ _ _ h => h) (Or.inl ⟨by rfl, ?_⟩) (by assumption) ?_
  rotate_left
  · intro wt hSw; (try dsimp only at hSw); have eb := cellB hSw eb zb; have e0 := cellB hSw e0 zG; have e1 := cellB hSw e1 zG; have e2 := cellB hSw e2 zG; have e3 := cellB hSw e3 zG; have e4 := cellB hSw e4 zG; have e5 := cellB hSw e5 zG; have e6 := cellB hSw e6 zG; have k0 := cellB hSw k0 zc; have k1 := cellB hSw k1 zc; have k2 := cellB hSw k2 zc; have s0 := cellB hSw s0 zS; first | (go_simp; done) | (go_simp; with_reducible rfl) | (trace_state; fail)
  try simp only [Act.put, List.setIfInBounds_toArray, List.set_cons_zero, List.set_cons_succ]
  refine wpAnyH_take (i := 7) (oi := { dst := some 22, op := Op.load 3 (Operand.tmp 21), type := 3, pos := _, after := #[{ on := 6, ground := Ground.data }], guard := none }) (v := ?_) rfl (by kernel_rfl) (by kernel_rfl) (by kernel_rfl) (fun _ _ _ h => h) (Or.inl ⟨by rfl, ?_⟩) (by assumption) ?_
  rotate_left
  · intro wt hSw; (try dsimp only at hSw); have eb := cellB hSw eb zb; have e0 := cellB hSw e0 zG; have e1 := cellB hSw e1 zG; have e2 := cellB hSw e2 zG; have e3 := cellB hSw e3 zG; have e4 := cellB hSw e4 zG; have e5 := cellB hSw e5 zG; have e6 := cellB hSw e6 zG; have k0 := cellB hSw k0 zc; have k1 := cellB hSw k1 zc; have k2 := cellB hSw k2 zc; have s0 := cellB hSw s0 zS; first | (go_simp; done) | (go_simp; with_reducible rfl) | (trace_state; fail)
  try simp only [Act.put, List.setIfInBounds_toArray, List.set_cons_zero, List.set_cons_succ]
  refine wpAnyH_take (i := 8) (oi := { dst := some 23, op := Op.load 54 (Operand.tmp 2), type := 54, pos := _, after := #[], guard := none }) (v := ?_) rfl (by kernel_rfl) (by kernel_rfl) (by kernel_rfl) (fun _ _ _ h => h) (Or.inl ⟨by rfl, ?_⟩) (by assumption) ?_
  rotate_left
  · intro wt hSw; (try dsimp only at hSw); have eb := cellB hSw eb zb; have e0 := cellB hSw e0 zG; have e1 := cellB hSw e1 zG; have e2 := cellB hSw e2 zG; have e3 := cellB hSw e3 zG; have e4 := cellB hSw e4 zG; have e5 := cellB hSw e5 zG; have e6 := cellB hSw e6 zG; have k0 := cellB hSw k0 zc; have k1 := cellB hSw k1 zc; have k2 := cellB hSw k2 zc; have s0 := cellB hSw s0 zS; first | (go_simp; done) | (go_simp; with_reducible rfl) | (trace_state; fail)
  try simp only [Act.put, List.setIfInBounds_toArray, List.set_cons_zero, List.set_cons_succ]
  refine wpAnyH_take (i := 9) (oi := { dst := some 24, op := Op.nilCheck (Operand.tmp 23), type := 0, pos := _, after := #[{ on := 8, ground := Ground.data }], guard := none }) (v := ?_) rfl (by kernel_rfl) (by kernel_rfl) (by kernel_rfl) (fun _ _ _ h => h) (Or.inl ⟨by rfl, ?_⟩) (by assumption) ?_
  rotate_left
  · intro wt hSw; (try dsimp only at hSw); have eb := cellB hSw eb zb; have e0 := cellB hSw e0 zG; have e1 := cellB hSw e1 zG; have e2 := cellB hSw e2 zG; have e3 := cellB hSw e3 zG; have e4 := cellB hSw e4 zG; have e5 := cellB hSw e5 zG; have e6 := cellB hSw e6 zG; have k0 := cellB hSw k0 zc; have k1 := cellB hSw k1 zc; have k2 := cellB hSw k2 zc; have s0 := cellB hSw s0 zS; first | (go_simp; done) | (go_simp; with_reducible rfl) | (trace_state; fail)
  try simp only [Act.put, List.setIfInBounds_toArray, List.set_cons_zero, List.set_cons_succ]
  refine wpAnyH_take (i := 10) (oi := { dst := some 25, op := Op.fieldAddr 57 (Operand.tmp 24) 2, type := 0, pos := _, after := #[{ on := 9, ground := Ground.data }], guard := none }) (v := ?_) rfl (by kernel_rfl) (by kernel_rfl) (by kernel_rfl) (fun _ _ _ h => h) (Or.inl ⟨by rfl, ?_⟩) (by assumption) ?_
  rotate_left
  · intro wt hSw; (try dsimp only at hSw); have eb := cellB hSw eb zb; have e0 := cellB hSw e0 zG; have e1 := cellB hSw e1 zG; have e2 := cellB hSw e2 zG; have e3 := cellB hSw e3 zG; have e4 := cellB hSw e4 zG; have e5 := cellB hSw e5 zG; have e6 := cellB hSw e6 zG; have k0 := cellB hSw k0 zc; have k1 := cellB hSw k1 zc; have k2 := cellB hSw k2 zc; have s0 := cellB hSw s0 zS; first | (go_simp; done) | (go_simp; with_reducible rfl) | (trace_state; fail)
  try simp only [Act.put, List.setIfInBounds_toArray, List.set_cons_zero, List.set_cons_succ]
  refine wpAnyH_take (i := 11) (oi := { dst := some 26, op := Op.load 39 (Operand.tmp 25), type := 39, pos := _, after := #[{ on := 10, ground := Ground.data }], guard := none }) (v := ?_) rfl (by kernel_rfl) (by kernel_rfl) (by kernel_rfl) (fun _ _ _ h => h) (Or.inl ⟨by rfl, ?_⟩) (by assumption) ?_
  rotate_left
  · intro wt hSw; (try dsimp only at hSw); have eb := cellB hSw eb zb; have e0 := cellB hSw e0 zG; have e1 := cellB hSw e1 zG; have e2 := cellB hSw e2 zG; have e3 := cellB hSw e3 zG; have e4 := cellB hSw e4 zG; have e5 := cellB hSw e5 zG; have e6 := cellB hSw e6 zG; have k0 := cellB hSw k0 zc; have k1 := cellB hSw k1 zc; have k2 := cellB hSw k2 zc; have s0 := cellB hSw s0 zS; first | (go_simp; done) | (go_simp; with_reducible rfl) | (trace_state; fail)
  try simp only [Act.put, List.setIfInBounds_toArray, List.set_cons_zero, List.set_cons_succ]
  refine wpAnyH_take (i := 12) (oi := { dst := some 27, op := Op.move (Operand.tmp 1), type := 3, pos := _, after := #[], guard := none }) (v := ?_) rfl (by kernel_rfl) (by kernel_rfl) (by kernel_rfl) (fun _ _ _ h => h) (Or.inl ⟨by rfl, ?_⟩) (by assumption) ?_
  rotate_left
  · intro wt hSw; (try dsimp only at hSw); have eb := cellB hSw eb zb; have e0 := cellB hSw e0 zG; have e1 := cellB hSw e1 zG; have e2 := cellB hSw e2 zG; have e3 := cellB hSw e3 zG; have e4 := cellB hSw e4 zG; have e5 := cellB hSw e5 zG; have e6 := cellB hSw e6 zG; have k0 := cellB hSw k0 zc; have k1 := cellB hSw k1 zc; have k2 := cellB hSw k2 zc; have s0 := cellB hSw s0 zS; first | (go_simp; done) | (go_simp; with_reducible rfl) | (trace_state; fail)
  try simp only [Act.put, List.setIfInBounds_toArray, List.set_cons_zero, List.set_cons_succ]
  refine wpAnyH_take (i := 13) (oi := { dst := some 28, op := Op.indexAddr 39 (Operand.tmp 26) (Operand.tmp 27), type := 0, pos := _, after := #[{ on := 11, ground := Ground.data }, { on := 12, ground := Ground.data }], guard := none }) (v := ?_) rfl (by kernel_rfl) (by kernel_rfl) (by kernel_rfl) (fun _ _ _ h => h) (Or.inl ⟨by rfl, ?_⟩) (by assumption) ?_
  rotate_left
  · intro wt hSw; (try dsimp only at hSw); have eb := cellB hSw eb zb; have e0 := cellB hSw e0 zG; have e1 := cellB hSw e1 zG; have e2 := cellB hSw e2 zG; have e3 := cellB hSw e3 zG; have e4 := cellB hSw e4 zG; have e5 := cellB hSw e5 zG; have e6 := cellB hSw e6 zG; have k0 := cellB hSw k0 zc; have k1 := cellB hSw k1 zc; have k2 := cellB hSw k2 zc; have s0 := cellB hSw s0 zS; first | (go_simp; done) | (go_simp; with_reducible rfl) | (trace_state; fail)
  try simp only [Act.put, List.setIfInBounds_toArray, List.set_cons_zero, List.set_cons_succ]
  refine wpAnyH_take (i := 14) (oi := { dst := some 29, op := Op.load 45 (Operand.tmp 28), type := 45, pos := _, after := #[{ on := 13, ground := Ground.data }], guard := none }) (v := ?_) rfl (by kernel_rfl) (by kernel_rfl) (by kernel_rfl) (fun _ _ _ h => h) (Or.inl ⟨by rfl, ?_⟩) (by assumption) ?_
  rotate_left
  · intro wt hSw; (try dsimp only at hSw); have eb := cellB hSw eb zb; have e0 := cellB hSw e0 zG; have e1 := cellB hSw e1 zG; have e2 := cellB hSw e2 zG; have e3 := cellB hSw e3 zG; have e4 := cellB hSw e4 zG; have e5 := cellB hSw e5 zG; have e6 := cellB hSw e6 zG; have k0 := cellB hSw k0 zc; have k1 := cellB hSw k1 zc; have k2 := cellB hSw k2 zc; have s0 := cellB hSw s0 zS; first | (go_simp; done) | (go_simp; with_reducible rfl) | (trace_state; fail)
  try simp only [Act.put, List.setIfInBounds_toArray, List.set_cons_zero, List.set_cons_succ]
  refine wpAnyH_take (i := 15) (oi := { dst := some 30, op := Op.load 54 (Operand.tmp 2), type := 54, pos := _, after := #[], guard := none }) (v := ?_) rfl (by kernel_rfl) (by kernel_rfl) (by kernel_rfl) (fun _ _ _ h => h) (Or.inl ⟨by rfl, ?_⟩) (by assumption) ?_
  rotate_left
  · intro wt hSw; (try dsimp only at hSw); have eb := cellB hSw eb zb; have e0 := cellB hSw e0 zG; have e1 := cellB hSw e1 zG; have e2 := cellB hSw e2 zG; have e3 := cellB hSw e3 zG; have e4 := cellB hSw e4 zG; have e5 := cellB hSw e5 zG; have e6 := cellB hSw e6 zG; have k0 := cellB hSw k0 zc; have k1 := cellB hSw k1 zc; have k2 := cellB hSw k2 zc; have s0 := cellB hSw s0 zS; first | (go_simp; done) | (go_simp; with_reducible rfl) | (trace_state; fail)
  try simp only [Act.put, List.setIfInBounds_toArray, List.set_cons_zero, List.set_cons_succ]
  refine wpAnyH_take (i := 16) (oi := { dst := some 31, op := Op.nilCheck (Operand.tmp 30), type := 0, pos := _, after := #[{ on := 15, ground := Ground.data }], guard := none }) (v := ?_) rfl (by kernel_rfl) (by kernel_rfl) (by kernel_rfl) (fun _ _ _ h => h) (Or.inl ⟨by rfl, ?_⟩) (by assumption) ?_
  rotate_left
  · intro wt hSw; (try dsimp only at hSw); have eb := cellB hSw eb zb; have e0 := cellB hSw e0 zG; have e1 := cellB hSw e1 zG; have e2 := cellB hSw e2 zG; have e3 := cellB hSw e3 zG; have e4 := cellB hSw e4 zG; have e5 := cellB hSw e5 zG; have e6 := cellB hSw e6 zG; have k0 := cellB hSw k0 zc; have k1 := cellB hSw k1 zc; have k2 := cellB hSw k2 zc; have s0 := cellB hSw s0 zS; first | (go_simp; done) | (go_simp; with_reducible rfl) | (trace_state; fail)
  try simp only [Act.put, List.setIfInBounds_toArray, List.set_cons_zero, List.set_cons_succ]
  refine wpAnyH_take (i := 17) (oi := { dst := some 32, op := Op.fieldAddr 57 (Operand.tmp 31) 3, type := 0, pos := _, after := #[{ on := 16, ground := Ground.data }], guard := none }) (v := ?_) rfl (by kernel_rfl) (by kernel_rfl) (by kernel_rfl) (fun _ _ _ h => h) (Or.inl ⟨by rfl, ?_⟩) (by assumption) ?_
  rotate_left
  · intro wt hSw; (try dsimp only at hSw); have eb := cellB hSw eb zb; have e0 := cellB hSw e0 zG; have e1 := cellB hSw e1 zG; have e2 := cellB hSw e2 zG; have e3 := cellB hSw e3 zG; have e4 := cellB hSw e4 zG; have e5 := cellB hSw e5 zG; have e6 := cellB hSw e6 zG; have k0 := cellB hSw k0 zc; have k1 := cellB hSw k1 zc; have k2 := cellB hSw k2 zc; have s0 := cellB hSw s0 zS; first | (go_simp; done) | (go_simp; with_reducible rfl) | (trace_state; fail)
  try simp only [Act.put, List.setIfInBounds_toArray, List.set_cons_zero, List.set_cons_succ]
  refine wpAnyH_take (i := 18) (oi := { dst := some 33, op := Op.load 30 (Operand.tmp 32), type := 30, pos := _, after := #[{ on := 17, ground := Ground.data }], guard := none }) (v := ?_) rfl (by kernel_rfl) (by kernel_rfl) (by kernel_rfl) (fun _ _ _ h => h) (Or.inl ⟨by rfl, ?_⟩) (by assumption) ?_
  rotate_left
  · intro wt hSw; (try dsimp only at hSw); have eb := cellB hSw eb zb; have e0 := cellB hSw e0 zG; have e1 := cellB hSw e1 zG; have e2 := cellB hSw e2 zG; have e3 := cellB hSw e3 zG; have e4 := cellB hSw e4 zG; have e5 := cellB hSw e5 zG; have e6 := cellB hSw e6 zG; have k0 := cellB hSw k0 zc; have k1 := cellB hSw k1 zc; have k2 := cellB hSw k2 zc; have s0 := cellB hSw s0 zS; first | (go_simp; done) | (go_simp; with_reducible rfl) | (trace_state; fail)
  try simp only [Act.put, List.setIfInBounds_toArray, List.set_cons_zero, List.set_cons_succ]
  refine wpAnyH_take (i := 19) (oi := { dst := some 34, op := Op.move (Operand.tmp 1), type := 3, pos := _, after := #[], guard := none }) (v := ?_) rfl (by kernel_rfl) (by kernel_rfl) (by kernel_rfl) (fun _ _ _ h => h) (Or.inl ⟨by rfl, ?_⟩) (by assumption) ?_
  rotate_left
  · intro wt hSw; (try dsimp only at hSw); have eb := cellB hSw eb zb; have e0 := cellB hSw e0 zG; have e1 := cellB hSw e1 zG; have e2 := cellB hSw e2 zG; have e3 := cellB hSw e3 zG; have e4 := cellB hSw e4 zG; have e5 := cellB hSw e5 zG; have e6 := cellB hSw e6 zG; have k0 := cellB hSw k0 zc; have k1 := cellB hSw k1 zc; have k2 := cellB hSw k2 zc; have s0 := cellB hSw s0 zS; first | (go_simp; done) | (go_simp; with_reducible rfl) | (trace_state; fail)
  try simp only [Act.put, List.setIfInBounds_toArray, List.set_cons_zero, List.set_cons_succ]
  refine wpAnyH_take (i := 20) (oi := { dst := some 35, op := Op.indexAddr 30 (Operand.tmp 33) (Operand.tmp 34), type := 0, pos := _, after := #[{ on := 18, ground := Ground.data }, { on := 19, ground := Ground.data }], guard := none }) (v := ?_) rfl (by kernel_rfl) (by kernel_rfl) (by kernel_rfl) (fun _ _ _ h => h) (Or.inl ⟨by rfl, ?_⟩) (by assumption) ?_
  rotate_left
  · intro wt hSw; (try dsimp only at hSw); have eb := cellB hSw eb zb; have e0 := cellB hSw e0 zG; have e1 := cellB hSw e1 zG; have e2 := cellB hSw e2 zG; have e3 := cellB hSw e3 zG; have e4 := cellB hSw e4 zG; have e5 := cellB hSw e5 zG; have e6 := cellB hSw e6 zG; have k0 := cellB hSw k0 zc; have k1 := cellB hSw k1 zc; have k2 := cellB hSw k2 zc; have s0 := cellB hSw s0 zS; first | (go_simp; done) | (go_simp; with_reducible rfl) | (trace_state; fail)
  try simp only [Act.put, List.setIfInBounds_toArray, List.set_cons_zero, List.set_cons_succ]
  refine wpAnyH_take (i := 21) (oi := { dst := some 36, op := Op.load 36 (Operand.tmp 35), type := 36, pos := _, after := #[{ on := 20, ground := Ground.data }], guard := none }) (v := ?_) rfl (by kernel_rfl) (by kernel_rfl) (by kernel_rfl) (fun _ _ _ h => h) (Or.inl ⟨by rfl, ?_⟩) (by assumption) ?_
  rotate_left
  · intro wt hSw; (try dsimp only at hSw); have eb := cellB hSw eb zb; have e0 := cellB hSw e0 zG; have e1 := cellB hSw e1 zG; have e2 := cellB hSw e2 zG; have e3 := cellB hSw e3 zG; have e4 := cellB hSw e4 zG; have e5 := cellB hSw e5 zG; have e6 := cellB hSw e6 zG; have k0 := cellB hSw k0 zc; have k1 := cellB hSw k1 zc; have k2 := cellB hSw k2 zc; have s0 := cellB hSw s0 zS; first | (go_simp; done) | (go_simp; with_reducible rfl) | (trace_state; fail)
  try simp only [Act.put, List.setIfInBounds_toArray, List.set_cons_zero, List.set_cons_succ]
  refine wpAnyH_ready (rs := [22]) (by kernel_rfl) (by simp) ?_
  refine AllReadyH.cons (o := { dst := some 37, op := Op.call { callee := Callee.value (Operand.func 11), args := #[Operand.tmp 18, Operand.tmp 22, Operand.tmp 29, Operand.tmp 36], argTypes := #[27, 3, 45, 36] }, type := 42, pos := _, after := #[{ on := 3, ground := Ground.data }, { on := 7, ground := Ground.data }, { on := 14, ground := Ground.data }, { on := 21, ground := Ground.data }], guard := none }) rfl (fun K hK => ?_) AllReadyH.nil
  go_simp
  refine (HStp.out _ hHeld).mono ?_; rintro e v1 ⟨r, rfl, hr, hb1, hnw⟩; have HnwW := Lib.hid (hnw.low (w := w) (Nat.le_trans Hsz.out hHeld.size)); have hHeld := hHeld.trans (hb1.mono hHeld.size); have Hr := Lib.hid hr; have HHv := Lib.hid hHeld; clear hb1 hnw
  go_wp2_with fail
  refine hK.out _ _ ?_ (fun hHeld => ?_)
  · (try dsimp only); first | assumption | exact Below.alloc hHeld hHeld.size _ | exact (Below.refl _ _).drew | exact Below.drew (Below.refl _ _) | exact Below_drewN _ _ _ | exact Below.refl _ _ | (trace_state; fail)
  clear hK K
  try simp only [Act.put, List.setIfInBounds_toArray, List.set_cons_zero, List.set_cons_succ]
  refine wpAnyH_take (i := 23) (oi := { dst := some 14, op := Op.move (Operand.tmp 37), type := 42, pos := _, after := #[{ on := 22, ground := Ground.data }], guard := none }) (v := ?_) rfl (by kernel_rfl) (by kernel_rfl) (by kernel_rfl) (fun _ _ _ h => h) (Or.inl ⟨by rfl, ?_⟩) (by assumption) ?_
  rotate_left
  · intro wt hSw; (try dsimp only at hSw); have eb := cellB hSw eb zb; have e0 := cellB hSw e0 zG; have e1 := cellB hSw e1 zG; have e2 := cellB hSw e2 zG; have e3 := cellB hSw e3 zG; have e4 := cellB hSw e4 zG; have e5 := cellB hSw e5 zG; have e6 := cellB hSw e6 zG; have k0 := cellB hSw k0 zc; have k1 := cellB hSw k1 zc; have k2 := cellB hSw k2 zc; have s0 := cellB hSw s0 zS; first | (go_simp; done) | (go_simp; with_reducible rfl) | (trace_state; fail)
  try simp only [Act.put, List.setIfInBounds_toArray, List.set_cons_zero, List.set_cons_succ]
  refine wpAnyH_take (i := 24) (oi := { dst := some 38, op := Op.extract (Operand.tmp 14) 0, type := 36, pos := _, after := #[{ on := 23, ground := Ground.data }], guard := none }) (v := ?_) rfl (by kernel_rfl) (by kernel_rfl) (by kernel_rfl) (fun _ _ _ h => h) (Or.inl ⟨by rfl, ?_⟩) (by assumption) ?_
  rotate_left
  · intro wt hSw; (try dsimp only at hSw); have eb := cellB hSw eb zb; have e0 := cellB hSw e0 zG; have e1 := cellB hSw e1 zG; have e2 := cellB hSw e2 zG; have e3 := cellB hSw e3 zG; have e4 := cellB hSw e4 zG; have e5 := cellB hSw e5 zG; have e6 := cellB hSw e6 zG; have k0 := cellB hSw k0 zc; have k1 := cellB hSw k1 zc; have k2 := cellB hSw k2 zc; have s0 := cellB hSw s0 zS; first | (go_simp; done) | (go_simp; with_reducible rfl) | (trace_state; fail)
  try simp only [Act.put, List.setIfInBounds_toArray, List.set_cons_zero, List.set_cons_succ]
  refine wpAnyH_take (i := 25) (oi := { dst := some 39, op := Op.extract (Operand.tmp 14) 1, type := 32, pos := _, after := #[{ on := 23, ground := Ground.data }, { on := 26, ground := Ground.gcOnly Departure.lateStores }], guard := none }) (v := ?_) rfl (by kernel_rfl) (by kernel_rfl) (by kernel_rfl) (fun _ _ _ h => h) (Or.inl ⟨by rfl, ?_⟩) (by assumption) ?_
  rotate_left
  · intro wt hSw; (try dsimp only at hSw); have eb := cellB hSw eb zb; have e0 := cellB hSw e0 zG; have e1 := cellB hSw e1 zG; have e2 := cellB hSw e2 zG; have e3 := cellB hSw e3 zG; have e4 := cellB hSw e4 zG; have e5 := cellB hSw e5 zG; have e6 := cellB hSw e6 zG; have k0 := cellB hSw k0 zc; have k1 := cellB hSw k1 zc; have k2 := cellB hSw k2 zc; have s0 := cellB hSw s0 zS; first | (go_simp; done) | (go_simp; with_reducible rfl) | (trace_state; fail)
  try simp only [Act.put, List.setIfInBounds_toArray, List.set_cons_zero, List.set_cons_succ]
  refine wpAnyH_take (i := 26) (oi := { dst := some 6, op := Op.assign (Operand.tmp 38), type := 36, pos := _, after := #[{ on := 24, ground := Ground.data }, { on := 22, ground := Ground.chain }, { on := 0, ground := Ground.phase }, { on := 1, ground := Ground.phase }, { on := 2, ground := Ground.phase }, { on := 3, ground := Ground.phase }, { on := 4, ground := Ground.phase }, { on := 5, ground := Ground.phase }, { on := 6, ground := Ground.phase }, { on := 7, ground := Ground.phase }, { on := 8, ground := Ground.phase }, { on := 9, ground := Ground.phase }, { on := 10, ground := Ground.phase }, { on := 11, ground := Ground.phase }, { on := 12, ground := Ground.phase }, { on := 13, ground := Ground.phase }, { on := 14, ground := Ground.phase }, { on := 15, ground := Ground.phase }, { on := 16, ground := Ground.phase }, { on := 17, ground := Ground.phase }, { on := 18, ground := Ground.phase }, { on := 19, ground := Ground.phase }, { on := 20, ground := Ground.phase }, { on := 21, ground := Ground.phase }, { on := 22, ground := Ground.phase }, { on := 23, ground := Ground.phase }, { on := 24, ground := Ground.phase }, { on := 25, ground := Ground.textOnly Departure.lateStores }], guard := none }) (v := ?_) rfl (by kernel_rfl) (by kernel_rfl) (by kernel_rfl) (fun _ _ _ h => h) (Or.inl ⟨by rfl, ?_⟩) (by assumption) ?_
  rotate_left
  · intro wt hSw; (try dsimp only at hSw); have eb := cellB hSw eb zb; have e0 := cellB hSw e0 zG; have e1 := cellB hSw e1 zG; have e2 := cellB hSw e2 zG; have e3 := cellB hSw e3 zG; have e4 := cellB hSw e4 zG; have e5 := cellB hSw e5 zG; have e6 := cellB hSw e6 zG; have k0 := cellB hSw k0 zc; have k1 := cellB hSw k1 zc; have k2 := cellB hSw k2 zc; have s0 := cellB hSw s0 zS; first | (go_simp; done) | (go_simp; with_reducible rfl) | (trace_state; fail)
  try simp only [Act.put, List.setIfInBounds_toArray, List.set_cons_zero, List.set_cons_succ]
  refine wpAnyH_take (i := 27) (oi := { dst := some 7, op := Op.assign (Operand.tmp 39), type := 32, pos := _, after := #[{ on := 25, ground := Ground.data }, { on := 26, ground := Ground.chain }, { on := 0, ground := Ground.phase }, { on := 1, ground := Ground.phase }, { on := 2, ground := Ground.phase }, { on := 3, ground := Ground.phase }, { on := 4, ground := Ground.phase }, { on := 5, ground := Ground.phase }, { on := 6, ground := Ground.phase }, { on := 7, ground := Ground.phase }, { on := 8, ground := Ground.phase }, { on := 9, ground := Ground.phase }, { on := 10, ground := Ground.phase }, { on := 11, ground := Ground.phase }, { on := 12, ground := Ground.phase }, { on := 13, ground := Ground.phase }, { on := 14, ground := Ground.phase }, { on := 15, ground := Ground.phase }, { on := 16, ground := Ground.phase }, { on := 17, ground := Ground.phase }, { on := 18, ground := Ground.phase }, { on := 19, ground := Ground.phase }, { on := 20, ground := Ground.phase }, { on := 21, ground := Ground.phase }, { on := 22, ground := Ground.phase }, { on := 23, ground := Ground.phase }, { on := 24, ground := Ground.phase }, { on := 25, ground := Ground.phase }, { on := 26, ground := Ground.phase }], guard := none }) (v := ?_) rfl (by kernel_rfl) (by kernel_rfl) (by kernel_rfl) (fun _ _ _ h => h) (Or.inl ⟨by rfl, ?_⟩) (by assumption) ?_
  rotate_left
  · intro wt hSw; (try dsimp only at hSw); have eb := cellB hSw eb zb; have e0 := cellB hSw e0 zG; have e1 := cellB hSw e1 zG; have e2 := cellB hSw e2 zG; have e3 := cellB hSw e3 zG; have e4 := cellB hSw e4 zG; have e5 := cellB hSw e5 zG; have e6 := cellB hSw e6 zG; have k0 := cellB hSw k0 zc; have k1 := cellB hSw k1 zc; have k2 := cellB hSw k2 zc; have s0 := cellB hSw s0 zS; first | (go_simp; done) | (go_simp; with_reducible rfl) | (trace_state; fail)
  try simp only [Act.put, List.setIfInBounds_toArray, List.set_cons_zero, List.set_cons_succ]
  refine wpAnyH_done (by kernel_rfl) ?_ _
  obtain ⟨ra, rc, rfl⟩ := row_get Hr.out
  by_cases hE : E1 = 0
  case neg =>
    have q2 : (E1 != 0) = true := by simpa using hE
    have HR := Lib.hid (show Z = (E1, s) by rw [HZv.out, if_pos hE])
    clear hE eb e0 e1 e2 e3 e4 e5 e6 k0 k1 k2 s0 HBh HStp
    generalize ST.length = nst at *
    go_wp2_with fail
    go_ret
    exact ⟨by rw [HR.out]; rfl, vQ, U, by rw [HR.out]; exact HK1.out.below HHv.out, (HbW.out.trans (HHv.out.mono Hsz.out)).mono HLow.out⟩
  subst hE
  have HZ2 := Lib.hid (show Z = if ¬ (∀ z ∈ BL, TY.inB n z) then (11, s) else TY.goF ST BL s by rw [HZv.out, if_neg (by simp)])
  have e5v := cellB HHv.out e5 zG
  have ebv := cellB HHv.out eb zb
  clear eb e0 e1 e2 e3 e4 e5 e6 k0 k1 k2 s0 HStp HZv
  obtain ⟨nst, hnst⟩ : ∃ m, ST.length = m := ⟨_, rfl⟩
  have HNst := Lib.hid hnst
  rw [hnst]
  clear hnst
  go_wp2_with fail
  refine (HBh.out _ HHv.out).mono ?_; rintro e v2 ⟨rb, rfl, hrb, hb2, hnb⟩
  have HnwB := Lib.hid (hnb.low (w := w) (Nat.le_trans Hsz.out HHv.out.size))
  have HH2 := Lib.hid (HHv.out.trans (hb2.mono HHv.out.size))
  have Hr2 := Lib.hid (Hr.out.below intR_stable hb2)
  have Hrb := Lib.hid hrb
  have e5 := cellB hb2 e5v (World.block_lt_of_cell? v1 _ e5v)
  have eb := cellB hb2 ebv (World.block_lt_of_cell? v1 _ ebv)
  obtain ⟨ba, bd, rfl⟩ := row_get hrb
  obtain ⟨m, hm⟩ : ∃ m, BL.length = m := ⟨_, rfl⟩
  have HM := Lib.hid hm
  have hm70 : m ≤ 70000 := by rw [← hm]; exact Hbl.out
  rw [hm]
  clear e5v ebv hrb hb2 hnb hm HBh
  go_wp2_with fail
  go_loopw [10, 51] (fun _ jj wr => ∃ k : Nat, k ≤ m ∧ jj = .int .i64 k ∧ Hid (∀ z ∈ BL.take k, TY.inB n z) ∧ wr = v2) (fun _ jj _ => m - (intOf jj).toNat)
  case atStart => exact ⟨0, Nat.zero_le _, rfl, Lib.hid (by simp), rfl⟩
  case round =>
    obtain ⟨k, hk, rfl, hT, hwr⟩ := hrel
    subst hwr
    rename World => v2
    by_cases hlt : k < m
    case pos =>
      have q1 : ((k : Int) < (m : Int)) = True := eq_true (by omega)
      have q1' : (k < m) = True := eq_true hlt
      have hk62 : k ≤ 9223372036854775806 := by omega
      have HK := Lib.hid hlt
      obtain ⟨z, hz⟩ := get_some (L := BL) (n := k) (by rw [HM.out]; exact hlt)
      obtain ⟨g, o1, rfl, _, _, _, c0, hzI⟩ := int_at (by have h := Hrb.out; rwa [HM.out] at h) (k := k) (by rw [HM.out]; exact hlt)
      rw [show BL.getD k 0 = z by simp [List.getD, hz]] at c0 hzI
      have HTk := Lib.hid (take_snoc hz)
      have HCall := Lib.hid (visit_there z hzI w.heap.size G n (some ⟨bc, oc, none⟩) cc v2 eb e5)
      have HMm := Lib.hid (List.mem_of_getElem? hz)
      by_cases hin : TY.inB n z
      · have HR := Lib.hid (show ∀ y ∈ BL.take (k + 1), TY.inB n y by
          rw [HTk.out]
          intro y hy
          rcases List.mem_append.1 hy with hy | hy
          · exact hT.out y hy
          · rw [List.mem_singleton] at hy
            rw [hy]
            exact hin)
        have hd : decide (TY.inB n z) = true := decide_eq_true hin
        rw [hd] at HCall
        clear hin hd hT hz hlt hk hzI
        go_wp2_with fail
        refine HCall.out.mono ?_; rintro e w3 ⟨rfl, rfl⟩
        go_wp2_with fail
        go_roundw
        case rel => exact ⟨k + 1, by have := HK.out; omega, by simp, HR, by first | trivial | rfl⟩
        case measure => have := HK.out; first | (simp [intOf]; done) | (simp [intOf]; omega)
      · have hd : decide (TY.inB n z) = false := decide_eq_false hin
        have HR := Lib.hid (show Z = (11, s) by rw [HZ2.out, if_pos (fun h => hin (h z HMm.out))])
        rw [hd] at HCall
        clear hin hd hT hz hlt hk hzI
        go_wp2_with fail
        refine HCall.out.mono ?_; rintro e w3 ⟨rfl, rfl⟩
        go_wp2_with fail
        go_ret
        exact ⟨by rw [HR.out]; rfl, vQ, U, by rw [HR.out]; exact HK1.out.below HH2.out, (HbW.out.trans (HH2.out.mono Hsz.out)).mono HLow.out⟩
    obtain rfl : m = k := by omega
    have q1 : ((m : Int) < (m : Int)) = False := eq_false (by omega)
    have q1' : (m < m) = False := eq_false (by omega)
    have HAll := Lib.hid (show ∀ z ∈ BL, TY.inB n z by have h := hT.out; rwa [List.take_of_length_le (by rw [HM.out]; exact Nat.le_refl _)] at h)
    have HZ3 := Lib.hid (show TY.goF ST (BL.drop 0) s = Z by rw [HZ2.out, if_neg (fun h => h HAll.out)]; rfl)
    have HV2 := Lib.hid (HK1.out.below HH2.out)
    have Hbox := Lib.hid (obj_below Hbx.out HH2.out (heap_lt Hbx.out))
    have HB2 := Lib.hid (HbW.out.trans (HH2.out.mono Hsz.out))
    have HszM := Lib.hid (show w.heap.size < v2.heap.size from Nat.lt_of_lt_of_le zb HH2.out.size)
    clear hT hlt hk e5 eb HZ2
    go_wp2_with fail
    go_loopw [12, 62] (fun _ jj wr => ∃ (k : Nat) (t : WS) (vq : Value) (Ut : List Value), k ≤ m ∧ jj = .int .i64 k ∧ Hid (WAt B G gS gR n ⟨cv, pv, bv, uv, .int .i64 u, .slice (some ⟨bc, oc, none⟩) L.length cc⟩ vq Ut t wr) ∧ Hid (TY.goF ST (BL.drop k) t = Z ∧ TY.Fit n t) ∧ Hid ((∀ g, vq.ownBlock = some g → g < w.heap.size ∨ v2.heap.size ≤ g) ∧ (∀ i, w.heap.size ≤ i → i < v2.heap.size → wr.heap[i]? = v2.heap[i]?) ∧ v2.heap.size ≤ wr.heap.size ∧ Below B w wr)) (fun _ jj _ => m - (intOf jj).toNat)
    case atStart => exact ⟨0, s, vQ, U, Nat.zero_le _, rfl, HV2, Lib.hid ⟨HZ3.out, HF.out⟩, Lib.hid ⟨fun g hg => Or.inl (HVq.out g hg), fun _ _ _ => rfl, Nat.le_refl _, HB2.out.mono HLow.out⟩⟩
    case round =>
      obtain ⟨k, t, vq, Ut, hk, rfl, hW, hG, hI⟩ := hrel
      rename World => wr
      have HI := hI
      have HW := hW
      have HGo := hG
      by_cases hlt : k < m
      case neg =>
        obtain rfl : m = k := by omega
        have q1 : ((m : Int) < (m : Int)) = False := eq_false (by omega)
        have q1' : (m < m) = False := eq_false (by omega)
        have HR := Lib.hid (show Z = (0, t) by rw [← hG.out.1, List.drop_eq_nil_iff.2 (by rw [HM.out]; exact Nat.le_refl _)]; rfl)
        clear hW hG hI hlt hk
        go_wp2_with fail
        go_ret
        exact ⟨by rw [HR.out]; rfl, vq, Ut, by rw [HR.out]; exact HW.out, HI.out.2.2.2⟩
      have q1 : ((k : Int) < (m : Int)) = True := eq_true (by omega)
      have q1' : (k < m) = True := eq_true hlt
      have hk62 : k ≤ 9223372036854775806 := by omega
      have HK := Lib.hid hlt
      obtain ⟨z, hz⟩ := get_some (L := BL) (n := k) (by rw [HM.out]; exact hlt)
      have hin := HAll.out z (List.mem_of_getElem? hz)
      obtain ⟨zn, rfl⟩ : ∃ zn : Nat, z = (zn : Int) := ⟨z.toNat, by unfold TY.inB at hin; omega⟩
      have hzn : zn < n := by unfold TY.inB at hin; omega
      have hrb := row_range Hrb.out HnwB.out HI.out.2.1 HI.out.2.2.1
      have HSt := Lib.hid (row_range Hr2.out HnwW.out HI.out.2.1 HI.out.2.2.1)
      rw [HM.out] at hrb
      rw [HNst.out] at HSt
      obtain ⟨g, o1, rfl, _, _, _, c0, hzI⟩ := int_at hrb (k := k) (by rw [HM.out]; exact hlt)
      rw [show BL.getD k 0 = (zn : Int) by simp [List.getD, hz]] at c0 hzI
      have hbx := obj_cell (i := 0) ((HI.out.2.1 w.heap.size (Nat.le_refl _) HszM.out).trans Hbox.out) rfl
      have eb : wr.cell? ⟨w.heap.size, 0, none⟩ = some (.pointer (some ⟨G, 0, none⟩)) := hbx
      have e6 : wr.cell? ⟨G, 6, none⟩ = some (.slice (some ⟨gS, 0, none⟩) n n) := obj_cell HW.out.obj rfl
      have e7 : wr.cell? ⟨G, 7, none⟩ = some (.slice (some ⟨gR, 0, none⟩) n n) := obj_cell HW.out.obj rfl
      obtain ⟨m1, m2, m3⟩ := HW.out.len
      obtain ⟨uz, huz⟩ := get_some (L := Ut) (n := zn) (by omega)
      obtain ⟨tz, htz, hrz⟩ := row_of HW.out.rows huz
      obtain ⟨rz, hrez⟩ := get_some (L := t.reached) (n := zn) (by omega)
      have s0 : wr.cell? ⟨gS, zn, none⟩ = some uz := (HW.out.st.cellAt zn (by omega)).trans huz
      have r0 : wr.cell? ⟨gR, zn, none⟩ = some (.bool rz) := (HW.out.re.cellAt zn (by omega)).trans (by unfold bV1; rw [List.getElem?_map, hrez]; rfl)
      have hfz := HW.out.fit tz (List.mem_of_getElem? htz)
      have HRow := Lib.hid (row_of_owns hrz hfz.2)
      have HGs2 := Lib.hid (show (if t.reached.getD zn false = false then TY.goF ST (BL.drop (k + 1)) (reachF zn ST t) else if ¬ (t.stacks.getD zn []).length = ST.length then (9, t) else if ¬ t.stacks.getD zn [] = ST then (10, t) else TY.goF ST (BL.drop (k + 1)) t) = Z by
        have h := hG.out.1
        rw [List.drop_eq_getElem_cons (by rw [HM.out]; exact hlt), show BL[k]'(by rw [HM.out]; exact hlt) = (zn : Int) from by rw [List.getElem?_eq_getElem (by rw [HM.out]; exact hlt)] at hz; exact Option.some.inj hz] at h
        exact h)
      have hg1 : t.reached.getD zn false = rz := by simp [List.getD, hrez]
      have hg2 : t.stacks.getD zn [] = tz := by simp [List.getD, htz]
      rw [hg1, hg2] at HGs2
      have HZn := Lib.hid (And.intro hzn hg1)
      have z1 : ((zn : Int) < (n : Int)) = True := eq_true (by omega)
      have z1' : (zn < n) = True := eq_true hzn
      have HBge := Lib.hid (show B ≤ G ∧ B ≤ gS ∧ B ≤ gR ∧ (∀ g, vq.ownBlock = some g → B ≤ g) from ⟨HW.out.hB, (owns_lt HW.out.st rfl).1, (owns_lt HW.out.re rfl).1, fun g hg => (owns_lt HW.out.qu hg).1⟩)
      cases rz
      case false =>
        have HZ4 := Lib.hid (show TY.goF ST (BL.drop (k + 1)) (reachF zn ST t) = Z by have h := HGs2.out; rwa [if_pos rfl] at h)
        have HF2 := Lib.hid (TY.reach_fit hG.out.2 hzn ST hg1).1
        have HCa := Lib.hid (walk_reach HW.out zn hzn (by have := HN.out.1; omega) (.slice ra nst rc) ST HSt.out Hsl.out (by have := hG.out.2.cnt; have := HN.out.1; omega) (fun y hy => by have := hG.out.2.wl y hy; have := HN.out.1; omega))
        clear hW hG hI hlt hk hz hin hzn hrb m1 m2 m3 huz htz hrz hrez hfz hg1 hg2 hzI hbx HGs2
        go_wp2_with fail
        refine HCa.out.mono ?_; rintro e w3 ⟨rfl, vq3, U3, hW3, hF3, hN3⟩
        have HR3 := Lib.hid hW3
        have HI3 := Lib.hid (show (∀ g, vq3.ownBlock = some g → g < w.heap.size ∨ v2.heap.size ≤ g) ∧ (∀ i, w.heap.size ≤ i → i < v2.heap.size → w3.heap[i]? = v2.heap[i]?) ∧ v2.heap.size ≤ w3.heap.size ∧ Below B w w3 from by
          have I := HI.out
          have b := HGs.out
          refine ⟨fun g hg => ?_, fun i h1 h2 => ?_, Nat.le_trans I.2.2.1 hF3.size, I.2.2.2.trans (hF3.below (fun i hi => ?_) (Nat.le_trans HLow.out I.2.2.2.size))⟩
          · rcases hN3 with h | ⟨g2, h, h2⟩
            · rw [h] at hg; exact I.1 g hg
            · rw [h] at hg
              injection hg with hg
              have := I.2.2.1
              omega
          · refine (hF3.block i (Nat.lt_of_lt_of_le h2 I.2.2.1) ?_).trans (I.2.1 i h1 h2)
            rintro (e | e | e | e)
            · omega
            · omega
            · omega
            · have := I.1 i e
              omega
          · have q := HBge.out
            rcases hi with e | e | e | e
            · omega
            · omega
            · omega
            · exact q.2.2.2 i e)
        clear hW3 hF3 hN3
        go_wp2_with fail
        go_roundw
        case rel => exact ⟨k + 1, reachF zn ST t, vq3, U3, by have := HK.out; omega, by simp, HR3, Lib.hid ⟨HZ4.out, HF2.out⟩, HI3⟩
        case measure => have := HK.out; first | (simp [intOf]; done) | (simp [intOf]; omega)
      obtain ⟨au, cu, rfl⟩ := row_get HRow.out
      by_cases hlen : tz.length = ST.length
      case neg =>
        have HR := Lib.hid (show Z = (9, t) by have h := HGs2.out; rw [if_neg (by simp), if_pos hlen] at h; exact h.symm)
        have q3 : ((tz.length : Int) != (nst : Int)) = true := by rw [HNst.out] at hlen; simp; omega
        clear hW hG hI hlt hk hz hin hzn hrb m1 m2 m3 huz htz hrz hrez hfz hg1 hg2 hzI hbx HGs2 hlen
        generalize tz.length = ntz at *
        go_wp2_with fail
        go_ret
        exact ⟨by rw [HR.out]; rfl, vq, Ut, by rw [HR.out]; exact HW.out, HI.out.2.2.2⟩
      have hlen2 : tz.length = nst := hlen.trans HNst.out
      have HEq := Lib.hid (slices_Equal (.slice au tz.length cu) (.slice ra nst rc) tz ST wr HRow.out HSt.out (by have := hfz.1; omega) hlen.symm)
      rw [hlen2] at HEq s0
      have q3 : ((nst : Int) != (nst : Int)) = false := by simp
      by_cases heq : tz = ST
      · have HZ4 := Lib.hid (show TY.goF ST (BL.drop (k + 1)) t = Z by have h := HGs2.out; rwa [if_neg (by simp), if_neg (fun h => h hlen), if_neg (fun h => h heq)] at h)
        have hd : decide (tz = ST) = true := decide_eq_true heq
        rw [hd] at HEq
        clear hW hG hI hlt hk hz hin hzn hrb m1 m2 m3 huz htz hrz hrez hfz hg1 hg2 hzI hbx HGs2 hlen hlen2 heq hd
        go_wp2_with fail
        refine HEq.out.mono ?_; rintro e w3 ⟨rfl, dk, rfl⟩
        have hb3 := Below_drewN wr.heap.size wr dk
        have HR3 := Lib.hid (HW.out.below hb3)
        have HI3 := Lib.hid (show (∀ g, vq.ownBlock = some g → g < w.heap.size ∨ v2.heap.size ≤ g) ∧ (∀ i, w.heap.size ≤ i → i < v2.heap.size → (wr.drewN dk).heap[i]? = v2.heap[i]?) ∧ v2.heap.size ≤ (wr.drewN dk).heap.size ∧ Below B w (wr.drewN dk) from
          ⟨HI.out.1, fun i h1 h2 => (hb3.block i (Nat.lt_of_lt_of_le h2 HI.out.2.2.1)).trans (HI.out.2.1 i h1 h2), Nat.le_trans HI.out.2.2.1 hb3.size, HI.out.2.2.2.trans (hb3.mono (Nat.le_trans HLow.out HI.out.2.2.2.size))⟩)
        clear hb3
        go_wp2_with fail
        go_roundw
        case rel => exact ⟨k + 1, t, vq, Ut, by have := HK.out; omega, by simp, HR3, Lib.hid ⟨HZ4.out, HGo.out.2⟩, HI3⟩
        case measure => have := HK.out; first | (simp [intOf]; done) | (simp [intOf]; omega)
      · have HR := Lib.hid (show Z = (10, t) by have h := HGs2.out; rw [if_neg (by simp), if_neg (fun h => h hlen), if_pos heq] at h; exact h.symm)
        have hd : decide (tz = ST) = false := decide_eq_false heq
        rw [hd] at HEq
        clear hW hG hI hlt hk hz hin hzn hrb m1 m2 m3 huz htz hrz hrez hfz hg1 hg2 hzI hbx HGs2 hlen hlen2 heq hd
        go_wp2_with fail
        refine HEq.out.mono ?_; rintro e w3 ⟨rfl, dk, rfl⟩
        have hb3 := Below_drewN wr.heap.size wr dk
        have HR3 := Lib.hid (HW.out.below hb3)
        have HB3 := Lib.hid (HI.out.2.2.2.trans (hb3.mono (Nat.le_trans HLow.out HI.out.2.2.2.size)))
        clear hb3
        go_wp2_with fail
        go_ret
        exact ⟨by rw [HR.out]; rfl, vq, Ut, by rw [HR.out]; exact HR3.out, HB3.out⟩
end Go.Proofs.YtnkmnmlhjanplaaDoor

/- Layer 20: typing.Entries. -/
namespace Go.Proofs.YtnkmnmlhjanplaaDoor
open Go.RowKit
set_option linter.unusedSimpArgs false
set_option linter.unusedVariables false
theorem firstP_zero {f : Nat → Int} {n : Nat} (h : (firstP f n).2 = 0) : ∀ j, j < n → f j = 0 := by
  intro j hj
  apply Classical.byContradiction
  intro hne
  obtain ⟨k, hk, hk2, hk3⟩ : ∃ k, k < n ∧ (∀ i, i < k → f i = 0) ∧ f k ≠ 0 := by
    have : ∀ m, (∃ j, j < m ∧ f j ≠ 0) → ∃ k, k < m ∧ (∀ i, i < k → f i = 0) ∧ f k ≠ 0 := by
      intro m
      induction m with
      | zero => rintro ⟨j, h, _⟩; omega
      | succ m ih =>
        rintro ⟨j, h, h2⟩
        by_cases he : ∃ j, j < m ∧ f j ≠ 0
        · obtain ⟨k, a, b, c⟩ := ih he
          exact ⟨k, by omega, b, c⟩
        · refine ⟨m, by omega, fun i hi => Classical.byContradiction fun x => he ⟨i, hi, x⟩, ?_⟩
          obtain rfl : j = m := by
            by_cases hjm : j < m
            · exact absurd ⟨j, hjm, h2⟩ he
            · omega
          exact h2
    exact this n ⟨j, hj, hne⟩
  rw [firstP_hit hk hk2 hk3] at h
  exact hk3 h
theorem chk_ok {p : Pr} {u : Int} (h : (chkP p u).2 = 0) : (0 ≤ u ∧ u < p.units.length) ∧ OkL (unAt p u).code := by
  by_cases hu : 0 ≤ u ∧ u < p.units.length
  · refine ⟨hu, fun k x hx => ?_⟩
    rw [chkP_is hu] at h
    have he := firstP_zero h k (lt_of_get hx)
    by_cases h1 : oneP p u x.1 x.2.1 x.2.2 = 0
    · rw [errAt_jump hx h1] at he
      have hr : oRight x.1 x.2.1 x.2.2 = true := by
        unfold oneP at h1
        split at h1
        · omega
        · split at h1
          · omega
          · rename_i h2; simpa using h2
      have hp := oRight_pos hr
      have hf : 0 ≤ x.2.1 ∧ x.2.1 ≤ 65535 := by
        have h4 := hp.2.2.2.1
        unfold oFit at h4
        split at h4
        · have : x.2.1 = 0 := by simpa using h4
          omega
        · exact of_decide_eq_true h4
      refine ⟨hf, fun h32 => ?_⟩
      rw [h32, jumpP_s] at he
      split at he
      · omega
      · cases he
    · exact absurd ((errAt_one hx h1).symm.trans he) h1
  · rw [chkP_u hu] at h
    cases h
theorem start_wat {B G gS gR n : Nat} {h : Hd} {w : World} (hS : w.heap[gS]? = some (.cells (madeCells (Value.slice none 0 0).cells n) 36 (0, 0))) (hR : w.heap[gR]? = some (.cells (madeCells (Value.bool false).cells n) 4 (0, 0))) (hG : w.heap[G]? = some (.cells (walkA h gS gR n (.slice none 0 0)) 57 (0, 0))) (hB : B ≤ G ∧ B ≤ gS ∧ B ≤ gR) (hn : n ≤ 300) : WAt B G gS gR n h (.slice none 0 0) (List.replicate n (.slice none 0 0)) ⟨List.replicate n [], List.replicate n false, []⟩ w := by
  rw [madeS] at hS
  rw [made_false] at hR
  have hlt := heap_lt hG
  refine ⟨hG, hB.1, ⟨by simp, Or.inr ⟨gS, n, _, rfl, hB.2.1, hS, Nat.le_refl _, by unfold maxLen; omega, by simp, by simp⟩⟩, OwnRows.blank B 3 w n, ⟨by simp [bV1], Or.inr ⟨gR, n, _, rfl, hB.2.2, hR, Nat.le_refl _, by unfold maxLen; omega, by simp [bV1], by simp [bV1]⟩⟩, World.ownsRow_nil _ _ _ _, fun k u g hu hg => by simp [Value.ownBlock], by omega, fun st hst => ?_⟩
  obtain ⟨_, rfl⟩ := List.mem_replicate.1 hst
  simp
theorem ent_wat {B n : Nat} {w1 W5 : World} {a b c d e f : Value} {MS MR : Array Value}
    (h : (((w1.alloc (.cells MS 36)).alloc (.cells MR 4)).alloc (.cells #[a, b, c, d, e, f, .slice (some ⟨w1.heap.size, 0, none⟩) n n, .slice (some ⟨w1.heap.size + 1, 0, none⟩) n n, .slice none 0 0] 57)).drew = W5 ∨
      (((w1.alloc (.cells MR 4)).alloc (.cells MS 36)).alloc (.cells #[a, b, c, d, e, f, .slice (some ⟨w1.heap.size + 1, 0, none⟩) n n, .slice (some ⟨w1.heap.size, 0, none⟩) n n, .slice none 0 0] 57)).drew = W5)
    (hM : madeCells (Value.slice none 0 0).cells n = MS ∧ madeCells (Value.bool false).cells n = MR) (hB : B ≤ w1.heap.size) (hn : n ≤ 300) :
    ∃ gS gR, WAt B (w1.heap.size + 1 + 1) gS gR n ⟨a, b, c, d, e, f⟩ (.slice none 0 0) (List.replicate n (.slice none 0 0)) ⟨List.replicate n [], List.replicate n false, []⟩ W5 ∧ Below w1.heap.size w1 W5 := by
  obtain ⟨rfl, rfl⟩ := hM
  have get3 : ∀ (A C D : Obj), (((w1.alloc A).alloc C).alloc D).drew.heap[w1.heap.size]? = some A ∧ (((w1.alloc A).alloc C).alloc D).drew.heap[w1.heap.size + 1]? = some C ∧ (((w1.alloc A).alloc C).alloc D).drew.heap[w1.heap.size + 1 + 1]? = some D := fun A C D => by
    have s1 : (w1.alloc A).heap.size = w1.heap.size + 1 := by simp
    have s2 : ((w1.alloc A).alloc C).heap.size = w1.heap.size + 1 + 1 := by simp
    refine ⟨?_, ?_, ?_⟩
    · show (((w1.alloc A).alloc C).alloc D).heap[w1.heap.size]? = _
      rw [get_past (by rw [s2]; omega), get_past (by rw [s1]; omega)]
      exact get_last rfl
    · show (((w1.alloc A).alloc C).alloc D).heap[w1.heap.size + 1]? = _
      rw [get_past (by rw [s2]; omega)]
      exact get_last s1.symm
    · exact get_last s2.symm
  have hb : ∀ (A C D : Obj), Below w1.heap.size w1 (((w1.alloc A).alloc C).alloc D).drew := fun A C D => ((((Below.refl _ _).alloc (Nat.le_refl _) A).alloc (by simp) C).alloc (by simp; omega) D).drew
  rcases h with rfl | rfl
  · obtain ⟨g1, g2, g3⟩ := get3 _ _ _
    exact ⟨w1.heap.size, w1.heap.size + 1, start_wat g1 g2 g3 ⟨by omega, by omega, by omega⟩ hn, hb _ _ _⟩
  · obtain ⟨g1, g2, g3⟩ := get3 _ _ _
    exact ⟨w1.heap.size + 1, w1.heap.size, start_wat g2 g1 g3 ⟨by omega, by omega, by omega⟩ hn, hb _ _ _⟩
/-- what Entries tells -/
def EntQ (p : Pr) (u : Int) (w : World) (e : Ending) (w' : World) : Prop := Below w.heap.size w w' ∧
  (((chkP p u).2 ≠ 0 ∧ e = .returned (.tuple #[.slice none 0 0, .slice none 0 0, .int .i64 (chkP p u).1, .int .i64 (chkP p u).2])) ∨
   ((chkP p u).2 = 0 ∧ ∃ r, TY.entF (tyE p u (unAt p u).code) ((unAt p u).code.length + 1) (TY.start (unAt p u).code.length) = some r ∧
     ((r.2.1 ≠ 0 ∧ e = .returned (.tuple #[.slice none 0 0, .slice none 0 0, .int .i64 r.1, .int .i64 r.2.1])) ∨
      (r.2.1 = 0 ∧ ∃ vS vR, e = .returned (.tuple #[vS, vR, .int .i64 0, .int .i64 0]) ∧ RowR 1 gridR w' vS r.2.2.stacks ∧ RowR 1 boolR w' vR r.2.2.reached ∧ ∀ st ∈ r.2.2.stacks, st.length ≤ 32))))
set_option maxRecDepth 100000 in
set_option maxHeartbeats 4000000 in
theorem typing_Entries (cv pv bv uv : Value) (p : Pr) (u : Int) (w : World) (hP : PrAt w cv pv bv uv p) (hT : TabR w) (hBt : BTab w) (hf : fewP p = true) :
    Calls Tryd.prog 7 #[.agg #[cv, pv, bv, uv], .int .i64 u] w (EntQ p u w) := by
  have HCh := Lib.hid (fun W (hb : Below w.heap.size w W) => refs_Check cv pv bv uv p u W (hP.below hb) (hT.below hb) hf)
  obtain ⟨W1, hW1⟩ : ∃ W1, W1 = w.alloc (.cells #[cv, pv, bv, uv] 27) := ⟨_, rfl⟩
  have hb1 : Below w.heap.size w W1 := by rw [hW1]; exact (Below.refl _ _).alloc (Nat.le_refl _) _
  have hbx : W1.heap[w.heap.size]? = some (.cells #[cv, pv, bv, uv] 27 (0, 0)) := by rw [hW1]; exact get_last rfl
  have HW1 := Lib.hid hW1
  have Hb1 := Lib.hid hb1
  have Hbx := Lib.hid hbx
  by_cases hchk : (chkP p u).2 = 0
  case neg =>
    have HQ := Lib.hid (fun w' (hb : Below w.heap.size w w') => (show EntQ p u w (.returned (.tuple #[.slice none 0 0, .slice none 0 0, .int .i64 (chkP p u).1, .int .i64 (chkP p u).2])) w' from ⟨hb, Or.inl ⟨hchk, rfl⟩⟩))
    have hqq : ((chkP p u).2 != 0) = true := by simpa using hchk
    generalize (chkP p u).1 = c1 at *
    generalize (chkP p u).2 = c2 at *
    clear hP hT hBt hW1 hb1 hbx hchk
    go_enter Tryd.func7, Tryd.ntmps7
    go_wp2_with fail
    rw [← HW1.out]
    refine (HCh.out _ Hb1.out).mono ?_; rintro e w1 ⟨rfl, hb2⟩
    have HB2 := Lib.hid (Hb1.out.trans (hb2.mono Hb1.out.size))
    clear hb2
    go_wp2_with fail
    go_returns
    exact HQ.out _ HB2.out
  obtain ⟨hu, hOk⟩ := chk_ok hchk
  obtain ⟨i, rfl⟩ := Int.eq_ofNat_of_zero_le hu.1
  obtain ⟨y, hy⟩ := get_some (L := p.units) (n := i) (by omega)
  have huy : unAt p i = y := by unfold unAt; simp [List.getD, hy]
  have hy300 := (fewU_is ((fewP_is hf).2.2.2 y (List.mem_of_getElem? hy))).2.2.2
  have hPs := hP
  obtain ⟨s3, t3, rfl⟩ := row_get hP.us
  obtain ⟨b3, off3, rfl, hbw3, hc3⟩ := unit_at hP.us (k := i) (lt_of_get hy)
  obtain ⟨u1, u3, u4, c0, c1, c2, c3, c4, hU⟩ := hc3 i y hy
  have hcode := hU.cs
  obtain ⟨sc, tc, rfl⟩ := row_get hcode
  rw [huy] at hOk
  obtain ⟨i2, hi2, hz2, hsize2, hby2⟩ : ∃ i, Tryd.prog.info? 36 = some i ∧ i.zero = some (.slice none 0 0) ∧ i.size = 1 ∧ i.bytes = 24 := ⟨(Tryd.prog.info? 36).get!, by kernel_rfl, by kernel_rfl, by kernel_rfl, by kernel_rfl⟩
  obtain ⟨i3, hi3, hz3, hsize3, hby3⟩ : ∃ i, Tryd.prog.info? 4 = some i ∧ i.zero = some (.bool false) ∧ i.size = 1 ∧ i.bytes = 1 := ⟨(Tryd.prog.info? 4).get!, by kernel_rfl, by kernel_rfl, by kernel_rfl, by kernel_rfl⟩
  have hmS := fun W => run_make W 30 36 i2 _ Tryd.underlying30 hi2 hz2 .i64 .i64 ((y.code.length : Nat) : Int) ((y.code.length : Nat) : Int) (by omega) (by omega) (by rw [hby2]; omega) (by omega)
  rw [hsize2, Nat.mul_one, Int.toNat_natCast] at hmS
  have hmR := fun W => run_make W 31 4 i3 _ Tryd.underlying31 hi3 hz3 .i64 .i64 ((y.code.length : Nat) : Int) ((y.code.length : Nat) : Int) (by omega) (by omega) (by rw [hby3]; omega) (by omega)
  rw [hsize3, Nat.mul_one, Int.toNat_natCast] at hmR
  obtain ⟨n, hn⟩ : ∃ n, y.code.length = n := ⟨_, rfl⟩
  have HN := Lib.hid hn
  have HCo := Lib.hid hcode
  have HOk := Lib.hid hOk
  have HUy := Lib.hid huy
  have HP := Lib.hid hPs
  have HT := Lib.hid (And.intro hT hBt)
  have c4 := cellB hb1 c4 hbw3
  have zb3 : b3 < W1.heap.size := Nat.lt_of_lt_of_le hbw3 hb1.size
  have e0 : W1.cell? ⟨w.heap.size, 0, none⟩ = some cv := obj_cell hbx rfl
  have e1 : W1.cell? ⟨w.heap.size, 1, none⟩ = some pv := obj_cell hbx rfl
  have e2 : W1.cell? ⟨w.heap.size, 2, none⟩ = some bv := obj_cell hbx rfl
  have e3 : W1.cell? ⟨w.heap.size, 3, none⟩ = some (.slice (some ⟨b3, off3, none⟩) p.units.length t3) := obj_cell hbx rfl
  have zb : w.heap.size < W1.heap.size := heap_lt hbx
  obtain ⟨MS, hMS⟩ : ∃ Z, madeCells (Value.slice none 0 0).cells y.code.length = Z := ⟨_, rfl⟩
  obtain ⟨MR, hMR⟩ : ∃ Z, madeCells (Value.bool false).cells y.code.length = Z := ⟨_, rfl⟩
  have HMS := Lib.hid (And.intro hMS hMR)
  rw [hMS] at hmS
  rw [hMR] at hmR
  have q1 : ((i : Int) < (p.units.length : Int)) = True := eq_true hu.2
  have q1' : (i < p.units.length) = True := eq_true (by omega)
  rw [hn] at hmS hmR c4 hy300 HCo HMS
  obtain ⟨n3, hn3⟩ : ∃ n, p.units.length = n := ⟨_, rfl⟩
  have HN3 := Lib.hid hn3
  rw [hn3] at e3 q1 q1' HP HCh HW1 Hbx ⊢
  rw [hchk] at HCh
  have HChk := Lib.hid hchk
  obtain ⟨hf0, hg0, hc0⟩ := TY.start_told (tyE p i y.code)
  obtain ⟨r, hr, _⟩ := TY.ent_told (tyE p i y.code) ((tyE p i y.code).n + 1) (TY.start (tyE p i y.code).n) hf0 hg0 (by omega)
  have hEn : (tyE p i y.code).n = n := hn
  rw [hEn] at hr hf0 hg0
  have HE0 := Lib.hid (And.intro hr (And.intro hf0 hg0))
  have HQe := Lib.hid (fun w' (hb : Below w.heap.size w w') (hne : r.2.1 ≠ 0) => (show EntQ p i w (.returned (.tuple #[.slice none 0 0, .slice none 0 0, .int .i64 r.1, .int .i64 r.2.1])) w' from ⟨hb, Or.inr ⟨hchk, r, by rw [huy, hn]; exact hr, Or.inl ⟨hne, rfl⟩⟩⟩))
  have HQo := Lib.hid (fun w' vS vR (hb : Below w.heap.size w w') (h0 : r.2.1 = 0) (hS : RowR 1 gridR w' vS r.2.2.stacks) (hR : RowR 1 boolR w' vR r.2.2.reached) (hL : ∀ st ∈ r.2.2.stacks, st.length ≤ 32) => (show EntQ p i w (.returned (.tuple #[vS, vR, .int .i64 0, .int .i64 0])) w' from ⟨hb, Or.inr ⟨hchk, r, by rw [huy, hn]; exact hr, Or.inr ⟨h0, vS, vR, rfl, hS, hR, hL⟩⟩⟩))
  clear hr hf0 hg0 hc0 hEn
  have mixed : Tryd.prog.follows .mixedOrders = true := by kernel_rfl
  clear hP hPs hT hBt hW1 hb1 hbx hchk hc3 hU hcode hOk hu hy huy c0 c1 c2 c3 hbw3 hMS hMR hn hn3
  generalize (chkP p i).1 = z1 at *
  go_enter Tryd.func7, Tryd.ntmps7
  go_wp2_with fail
  rw [← HW1.out]
  refine (HCh.out _ Hb1.out).mono ?_; rintro e w1 ⟨rfl, hb2⟩
  have e0 := cellB hb2 e0 zb
  have e1 := cellB hb2 e1 zb
  have e2 := cellB hb2 e2 zb
  have e3 := cellB hb2 e3 zb
  have c4 := cellB hb2 c4 zb3
  have Hb2 := Lib.hid hb2
  clear hb2
  go_wp2_with fail
  have zb1 := Nat.lt_of_lt_of_le zb Hb2.out.size
  refine wp_region_held_drew (S := (fun w' => Below w1.heap.size w1 w')) (by kernel_rfl) ?_ (fun hHeld => ?_)
  · (try dsimp only); first | assumption | exact Below.alloc hHeld hHeld.size _ | exact (Below.refl _ _).drew | exact Below.drew (Below.refl _ _) | exact Below_drewN _ _ _ | exact Below.refl _ _ | (trace_state; fail)
  refine wpAnyH_take (i := 0) (oi := { dst := some 30, op := Op.load 27 (Operand.tmp 2), type := 27, pos := _, after := #[], guard := none }) (v := ?_) rfl (by kernel_rfl) (by kernel_rfl) (by kernel_rfl) (fun _ _ _ h => h) (Or.inl ⟨by rfl, ?_⟩) (by assumption) ?_
  rotate_left
  · intro wt hSw; (try dsimp only at hSw); have e0 := cellB hSw e0 zb1; have e1 := cellB hSw e1 zb1; have e2 := cellB hSw e2 zb1; have e3 := cellB hSw e3 zb1; first | (go_simp; done) | (go_simp; with_reducible rfl) | (trace_state; fail)
  try simp only [Act.put, List.setIfInBounds_toArray, List.set_cons_zero, List.set_cons_succ]
  refine wpAnyH_take (i := 1) (oi := { dst := some 31, op := Op.move (Operand.tmp 1), type := 3, pos := _, after := #[], guard := none }) (v := ?_) rfl (by kernel_rfl) (by kernel_rfl) (by kernel_rfl) (fun _ _ _ h => h) (Or.inl ⟨by rfl, ?_⟩) (by assumption) ?_
  rotate_left
  · intro wt hSw; (try dsimp only at hSw); have e0 := cellB hSw e0 zb1; have e1 := cellB hSw e1 zb1; have e2 := cellB hSw e2 zb1; have e3 := cellB hSw e3 zb1; first | (go_simp; done) | (go_simp; with_reducible rfl) | (trace_state; fail)
  try simp only [Act.put, List.setIfInBounds_toArray, List.set_cons_zero, List.set_cons_succ]
  refine wpAnyH_take (i := 2) (oi := { dst := some 32, op := Op.move (Operand.tmp 10), type := 39, pos := _, after := #[], guard := none }) (v := ?_) rfl (by kernel_rfl) (by kernel_rfl) (by kernel_rfl) (fun _ _ _ h => h) (Or.inl ⟨by rfl, ?_⟩) (by assumption) ?_
  rotate_left
  · intro wt hSw; (try dsimp only at hSw); have e0 := cellB hSw e0 zb1; have e1 := cellB hSw e1 zb1; have e2 := cellB hSw e2 zb1; have e3 := cellB hSw e3 zb1; first | (go_simp; done) | (go_simp; with_reducible rfl) | (trace_state; fail)
  try simp only [Act.put, List.setIfInBounds_toArray, List.set_cons_zero, List.set_cons_succ]
  refine wpAnyH_take (i := 3) (oi := { dst := some 33, op := Op.move (Operand.tmp 10), type := 39, pos := _, after := #[], guard := none }) (v := ?_) rfl (by kernel_rfl) (by kernel_rfl) (by kernel_rfl) (fun _ _ _ h => h) (Or.inl ⟨by rfl, ?_⟩) (by assumption) ?_
  rotate_left
  · intro wt hSw; (try dsimp only at hSw); have e0 := cellB hSw e0 zb1; have e1 := cellB hSw e1 zb1; have e2 := cellB hSw e2 zb1; have e3 := cellB hSw e3 zb1; first | (go_simp; done) | (go_simp; with_reducible rfl) | (trace_state; fail)
  try simp only [Act.put, List.setIfInBounds_toArray, List.set_cons_zero, List.set_cons_succ]
  refine wpAnyH_take (i := 4) (oi := { dst := some 34, op := Op.call { callee := Callee.builtin Builtin.len, args := #[Operand.tmp 33], argTypes := #[39] }, type := 3, pos := _, after := #[{ on := 3, ground := Ground.data }], guard := none }) (v := ?_) rfl (by kernel_rfl) (by kernel_rfl) (by kernel_rfl) (fun _ _ _ h => h) (Or.inl ⟨by rfl, ?_⟩) (by assumption) ?_
  rotate_left
  · intro wt hSw; (try dsimp only at hSw); have e0 := cellB hSw e0 zb1; have e1 := cellB hSw e1 zb1; have e2 := cellB hSw e2 zb1; have e3 := cellB hSw e3 zb1; first | (go_simp; done) | (go_simp; with_reducible rfl) | (trace_state; fail)
  try simp only [Act.put, List.setIfInBounds_toArray, List.set_cons_zero, List.set_cons_succ]
  refine wpAnyH_take (i := 6) (oi := { dst := some 36, op := Op.move (Operand.tmp 10), type := 39, pos := _, after := #[], guard := none }) (v := ?_) rfl (by kernel_rfl) (by kernel_rfl) (by kernel_rfl) (fun _ _ _ h => h) (Or.inl ⟨by rfl, ?_⟩) (by assumption) ?_
  rotate_left
  · intro wt hSw; (try dsimp only at hSw); have e0 := cellB hSw e0 zb1; have e1 := cellB hSw e1 zb1; have e2 := cellB hSw e2 zb1; have e3 := cellB hSw e3 zb1; first | (go_simp; done) | (go_simp; with_reducible rfl) | (trace_state; fail)
  try simp only [Act.put, List.setIfInBounds_toArray, List.set_cons_zero, List.set_cons_succ]
  refine wpAnyH_take (i := 7) (oi := { dst := some 37, op := Op.call { callee := Callee.builtin Builtin.len, args := #[Operand.tmp 36], argTypes := #[39] }, type := 3, pos := _, after := #[{ on := 6, ground := Ground.data }], guard := none }) (v := ?_) rfl (by kernel_rfl) (by kernel_rfl) (by kernel_rfl) (fun _ _ _ h => h) (Or.inl ⟨by rfl, ?_⟩) (by assumption) ?_
  rotate_left
  · intro wt hSw; (try dsimp only at hSw); have e0 := cellB hSw e0 zb1; have e1 := cellB hSw e1 zb1; have e2 := cellB hSw e2 zb1; have e3 := cellB hSw e3 zb1; first | (go_simp; done) | (go_simp; with_reducible rfl) | (trace_state; fail)
  try simp only [Act.put, List.setIfInBounds_toArray, List.set_cons_zero, List.set_cons_succ]
  refine wpAnyH_ready (rs := [5, 8]) (by kernel_rfl) (by simp) ?_
  refine AllReadyH.cons (o := { dst := some 35, op := Op.makeSlice 30 (Operand.tmp 34) (Operand.tmp 34), type := 30, pos := _, after := #[{ on := 4, ground := Ground.data }, { on := 4, ground := Ground.data }], guard := none }) rfl (fun K hK => ?_) (AllReadyH.cons (o := { dst := some 38, op := Op.makeSlice 31 (Operand.tmp 37) (Operand.tmp 37), type := 31, pos := _, after := #[{ on := 7, ground := Ground.data }, { on := 7, ground := Ground.data }], guard := none }) rfl (fun K hK => ?_) (AllReadyH.nil))
  ·
    go_simp
    refine hK.out _ _ ?_ (fun hHeld => ?_)
    · (try dsimp only); first | assumption | exact Below.alloc hHeld hHeld.size _ | exact (Below.refl _ _).drew | exact Below.drew (Below.refl _ _) | exact Below_drewN _ _ _ | exact Below.refl _ _ | (trace_state; fail)
    clear hK K
    try simp only [Act.put, List.setIfInBounds_toArray, List.set_cons_zero, List.set_cons_succ]
    refine wpAnyH_ready (rs := [8]) (by kernel_rfl) (by simp) ?_
    refine AllReadyH.cons (o := { dst := some 38, op := Op.makeSlice 31 (Operand.tmp 37) (Operand.tmp 37), type := 31, pos := _, after := #[{ on := 7, ground := Ground.data }, { on := 7, ground := Ground.data }], guard := none }) rfl (fun K hK => ?_) AllReadyH.nil
    go_simp
    refine hK.out _ _ ?_ (fun hHeld => ?_)
    · (try dsimp only); first | assumption | exact Below.alloc hHeld hHeld.size _ | exact (Below.refl _ _).drew | exact Below.drew (Below.refl _ _) | exact Below_drewN _ _ _ | exact Below.refl _ _ | (trace_state; fail)
    clear hK K
    try simp only [Act.put, List.setIfInBounds_toArray, List.set_cons_zero, List.set_cons_succ]
    refine wpAnyH_take (i := 9) (oi := { dst := some 39, op := Op.build 57 #[(0, Operand.tmp 30), (1, Operand.tmp 31), (2, Operand.tmp 32), (3, Operand.tmp 35), (4, Operand.tmp 38)], type := 57, pos := _, after := #[{ on := 0, ground := Ground.data }, { on := 1, ground := Ground.data }, { on := 2, ground := Ground.data }, { on := 5, ground := Ground.data }, { on := 8, ground := Ground.data }], guard := none }) (v := ?_) rfl (by kernel_rfl) (by kernel_rfl) (by kernel_rfl) (fun _ _ _ h => h) (Or.inl ⟨by rfl, ?_⟩) (by assumption) ?_
    rotate_left
    · intro wt hSw; (try dsimp only at hSw); have e0 := cellB hSw e0 zb1; have e1 := cellB hSw e1 zb1; have e2 := cellB hSw e2 zb1; have e3 := cellB hSw e3 zb1; first | (go_simp; done) | (go_simp; with_reducible rfl) | (trace_state; fail)
    try simp only [Act.put, List.setIfInBounds_toArray, List.set_cons_zero, List.set_cons_succ]
    refine wpAnyH_ready (rs := [10]) (by kernel_rfl) (by simp) ?_
    refine AllReadyH.cons (o := { dst := some 40, op := Op.box 57 (Operand.tmp 39), type := 54, pos := _, after := #[{ on := 9, ground := Ground.data }], guard := none }) rfl (fun K hK => ?_) AllReadyH.nil
    go_simp
    refine hK.out _ _ ?_ (fun hHeld => ?_)
    · (try dsimp only); first | assumption | exact Below.alloc hHeld hHeld.size _ | exact (Below.refl _ _).drew | exact Below.drew (Below.refl _ _) | exact Below_drewN _ _ _ | exact Below.refl _ _ | (trace_state; fail)
    clear hK K
    try simp only [Act.put, List.setIfInBounds_toArray, List.set_cons_zero, List.set_cons_succ]
    refine wpAnyH_take (i := 11) (oi := { dst := some 11, op := Op.assign (Operand.tmp 40), type := 54, pos := _, after := #[{ on := 10, ground := Ground.data }, { on := 0, ground := Ground.phase }, { on := 1, ground := Ground.phase }, { on := 2, ground := Ground.phase }, { on := 3, ground := Ground.phase }, { on := 4, ground := Ground.phase }, { on := 5, ground := Ground.phase }, { on := 6, ground := Ground.phase }, { on := 7, ground := Ground.phase }, { on := 8, ground := Ground.phase }, { on := 9, ground := Ground.phase }, { on := 10, ground := Ground.phase }], guard := none }) (v := ?_) rfl (by kernel_rfl) (by kernel_rfl) (by kernel_rfl) (fun _ _ _ h => h) (Or.inl ⟨by rfl, ?_⟩) (by assumption) ?_
    rotate_left
    · intro wt hSw; (try dsimp only at hSw); have e0 := cellB hSw e0 zb1; have e1 := cellB hSw e1 zb1; have e2 := cellB hSw e2 zb1; have e3 := cellB hSw e3 zb1; first | (go_simp; done) | (go_simp; with_reducible rfl) | (trace_state; fail)
    try simp only [Act.put, List.setIfInBounds_toArray, List.set_cons_zero, List.set_cons_succ]
    refine wpAnyH_done (by kernel_rfl) ?_ _
    generalize hW5 : World.drew (World.alloc (World.alloc (World.alloc w1 _) _) _) = W5
    have hWB := ent_wat (B := w.heap.size) (n := n) (by first | exact Or.inl hW5 | exact Or.inr hW5) HMS.out (by have := Hb1.out.size; have := Hb2.out.size; omega) hy300
    clear hW5
    obtain ⟨G, hG⟩ : ∃ G, w1.heap.size + 1 + 1 = G := ⟨_, rfl⟩
    rw [hG] at hWB
    rw [hG]
    clear hG
    obtain ⟨gS, gR, hWA, hB5⟩ := hWB
    have HWA := Lib.hid hWA
    have HB5 := Lib.hid (Hb1.out.trans ((Hb2.out.trans (hB5.mono Hb2.out.size)).mono Hb1.out.size))
    clear hWA hB5 e0 e1 e2 e3 c4 hmS hmR
    by_cases hn0 : n = 0
    · subst hn0
      have q8 : ((0 : Int) < ((0 : Nat) : Int)) = False := eq_false (by simp)
      have HWs : Hid (WAt w.heap.size G gS gR 0 ⟨cv, pv, bv, .slice (some ⟨b3, off3, none⟩) n3 t3, .int .i64 (i : Int), .slice sc 0 tc⟩ (.slice none 0 0) (List.replicate 0 (.slice none 0 0)) (TY.start 0) W5) := Lib.hid (by have h := HWA.out; exact h)
      go_wp2_with fail
      go_loopg [12, 13] (0 + 1) (fun k _ _ wr => ∃ (t : WS) (vq : Value) (Ut : List Value), Hid (WAt w.heap.size G gS gR 0 ⟨cv, pv, bv, .slice (some ⟨b3, off3, none⟩) n3 t3, .int .i64 (i : Int), .slice sc 0 tc⟩ vq Ut t wr) ∧ Hid (TY.entF (tyE p i y.code) k t = some r ∧ TY.Fit 0 t ∧ TY.Good (tyE p i y.code) t) ∧ Hid (Below w.heap.size w wr))
      case atStart => exact ⟨TY.start 0, _, _, HWs, HE0, HB5⟩
      case round =>
        obtain ⟨t, vq, Ut, hW, hE, hB⟩ := hrel
        have HW := hW
        have HE := hE
        have HB := hB
        obtain ⟨k', rfl⟩ : ∃ k', gk = k' + 1 := by
          cases gk with
          | zero => have h := hE.out.1; unfold TY.entF at h; cases h
          | succ k => exact ⟨k, rfl⟩
        rename World => wr
        have e8 : wr.cell? ⟨G, 8, none⟩ = some vq := obj_cell hW.out.obj rfl
        have e6 : wr.cell? ⟨G, 6, none⟩ = some (.slice (some ⟨gS, 0, none⟩) 0 0) := obj_cell hW.out.obj rfl
        have e7 : wr.cell? ⟨G, 7, none⟩ = some (.slice (some ⟨gR, 0, none⟩) 0 0) := obj_cell hW.out.obj rfl
        obtain ⟨qa, qc, rfl⟩ := owns_form hW.out.qu
        by_cases hwt : t.waits = []
        · have hR : r = (0, 0, t) := by
            have h := hE.out.1
            unfold TY.entF at h
            rw [if_pos hwt] at h
            exact (Option.some.inj h).symm
          have HFin := Lib.hid (show ∀ m, EntQ p i w (.returned (.tuple #[.slice (some ⟨gS, 0, none⟩) 0 0, .slice (some ⟨gR, 0, none⟩) 0 0, .int .i64 0, .int .i64 0])) (wr.drewN m) from fun m => by
            have hb := Below_drewN wr.heap.size wr m
            have hw2 := hW.out.below hb
            obtain ⟨l1, l2, l3⟩ := hw2.len
            refine HQo.out _ _ _ (hB.out.trans (hb.mono hB.out.size)) (by rw [hR]) ?_ ?_ ?_
            · rw [hR]
              exact grid_own (own_owns hw2.st l2.symm rfl) (fun j u l hu hl => row_of_owns (hw2.rows.row j u l hu hl) (hw2.fit l (List.mem_of_getElem? hl)).2)
            · rw [hR]
              exact bools_of_owns (own_owns hw2.re l3.symm rfl)
            · rw [hR]
              exact fun st hst => (hw2.fit st hst).1)
          rw [hwt] at e8
          have q9 : ((0 : Int) < ((([] : List Nat).length : Nat) : Int)) = False := eq_false (by simp)
          have e8 : wr.cell? ⟨G, 8, none⟩ = some (.slice qa 0 qc) := e8
          clear hW hE hB hwt hR
          go_wp2_with fail
          go_quiet (fail)
          go_wp2_with fail
          go_returns
          exact HFin.out _
        · obtain ⟨q, pc, hqp⟩ : ∃ q pc, t.waits = q ++ [pc] := ⟨t.waits.dropLast, t.waits.getLast hwt, (List.dropLast_concat_getLast hwt).symm⟩
          obtain ⟨ta, tb, tw⟩ := t
          simp only at hqp hwt
          subst hqp
          have hEu := hE.out.1
          have hlast : TY.lastF (q ++ [pc]) = pc := by simp [TY.lastF]
          unfold TY.entF at hEu
          rw [if_neg hwt] at hEu
          simp only [hlast, List.dropLast_concat] at hEu
          obtain ⟨f1, f2, f3, f4⟩ := TY.visit_told (E := tyE p i y.code) (by have h := hE.out.2.1; rw [← HN.out] at h; exact h) hE.out.2.2
          have hpcn : pc < 0 := hE.out.2.1.wl pc (by simp)
          have hlenq : (q ++ [pc]).length = q.length + 1 := by simp
          have hq300 : q.length ≤ 1000 := by
            have h : (q ++ [pc]).length + TY.un tb ≤ 0 := hE.out.2.1.cnt
            rw [hlenq] at h
            omega
          have HTk := Lib.hid (queue_take hW.out.quAt hq300)
          have HWn := hW
          rw [hlenq] at e8 HTk HWn
          have HF1 := Lib.hid (show TY.Fit 0 ⟨ta, tb, q⟩ by have h := f1; rw [show (tyE p i y.code).n = 0 from HN.out] at h; exact h)
          have HF2 := Lib.hid (show TY.Fit 0 (TY.visitF (tyE p i y.code) pc ⟨ta, tb, q⟩).2 by have h := f2; rw [show (tyE p i y.code).n = 0 from HN.out] at h; exact h)
          have HF4 := Lib.hid f4
          have HEu := Lib.hid hEu
          have HPc := Lib.hid hpcn
          obtain ⟨nq, hnq⟩ : ∃ nq, q.length = nq := ⟨_, rfl⟩
          rw [hnq] at e8 hq300
          have q9 : ((0 : Int) < (nq : Int) + 1) = True := eq_true (by omega)
          clear hW hE hB hwt hlast f1 f2 f3 f4 hEu hpcn hlenq e6 e7
          rw [hnq] at HTk HWn
          clear hnq
          go_wp2_with fail
          refine HTk.out.mono ?_; rintro e w2 ⟨rfl, vq2, hQ2, hob2, hF2⟩
          have hW2 := HWn.out.queued hQ2 (Or.inl (by simpa [Value.ownBlock] using hob2)) (hF2.more fun _ _ x => Or.inl x)
          have hB2 := HB.out.trans (hF2.below (B := w.heap.size) (fun k hk => by have := HW.out.hB; omega) HB.out.size)
          have HW2 := Lib.hid hW2
          have HB2 := Lib.hid hB2
          have hBb := hB2
          have HVi := Lib.hid (walk_visit hW2 (HP.out.below hBb) (HT.out.1.below hBb) (HT.out.2.below hBb) hf (HCo.out.below insR_stable hBb) HN.out hy300 HOk.out pc HPc.out HF1.out)
          clear hQ2 hob2 hF2 hW2 hB2 hBb HTk e8
          obtain ⟨V, hV⟩ : ∃ V, TY.visitF (tyE p i y.code) pc ⟨ta, tb, q⟩ = V := ⟨_, rfl⟩
          rw [hV] at HVi HF2 HF4 HEu
          clear hV
          obtain ⟨V1, V2⟩ := V
          go_wp2_with fail
          refine HVi.out.mono ?_; rintro e w3 ⟨rfl, vq3, U3, hW3, hb3⟩
          have HW3 := Lib.hid hW3
          have HB3 := Lib.hid (HB2.out.trans hb3)
          clear hW3 hb3
          by_cases hV0 : V1 = 0
          · subst hV0
            have HEn := Lib.hid (show TY.entF (tyE p i y.code) k' V2 = some r by have h := HEu.out; rwa [if_neg (by simp)] at h)
            have HG2 := Lib.hid (HF4.out rfl)
            go_wp2_with fail
            go_roundg k'
            case measure => omega
            case rel => exact ⟨V2, vq3, U3, HW3, Lib.hid ⟨HEn.out, HF2.out, HG2.out⟩, HB3⟩
          · have qv : (V1 != 0) = true := by simpa using hV0
            have hR : r = ((pc : Int), V1, V2) := by have h := HEu.out; rw [if_pos hV0] at h; exact (Option.some.inj h).symm
            have HFin := Lib.hid (show EntQ p i w (.returned (.tuple #[.slice none 0 0, .slice none 0 0, .int .i64 (pc : Int), .int .i64 V1])) w3 by have h := HQe.out w3 HB3.out (by rw [hR]; exact hV0); rw [hR] at h; exact h)
            clear hV0 hR
            go_wp2_with fail
            go_returns
            exact HFin.out
    · have q8 : ((0 : Int) < (n : Int)) = True := eq_true (by omega)
      have HRe := Lib.hid (walk_reach HWA.out 0 (by omega) (by omega) (.slice none 0 0) [] row_none (by simp) (by simp) (fun x hx => absurd hx List.not_mem_nil))
      go_wp2_with fail
      refine HRe.out.mono ?_; rintro e w6 ⟨rfl, vq6, U6, hW6, hF6, _⟩
      have HWs := Lib.hid (show WAt w.heap.size G gS gR n ⟨cv, pv, bv, .slice (some ⟨b3, off3, none⟩) n3 t3, .int .i64 (i : Int), .slice sc n tc⟩ vq6 U6 (TY.start n) w6 by
        have h := hW6
        unfold TY.start
        rw [if_pos (by omega)]
        exact h)
      have HBs := Lib.hid (HB5.out.trans (hF6.below (B := w.heap.size) (fun k hk => by
        rcases hk with h | h | h | h
        · have := HWA.out.hB; omega
        · have := (owns_lt HWA.out.st (g := gS) rfl).1; omega
        · have := (owns_lt HWA.out.re (g := gR) rfl).1; omega
        · simp [Value.ownBlock] at h) HB5.out.size))
      clear hW6 hF6
      go_wp2_with fail
      go_loopg [12, 13] (n + 1) (fun k _ _ wr => ∃ (t : WS) (vq : Value) (Ut : List Value), Hid (WAt w.heap.size G gS gR n ⟨cv, pv, bv, .slice (some ⟨b3, off3, none⟩) n3 t3, .int .i64 (i : Int), .slice sc n tc⟩ vq Ut t wr) ∧ Hid (TY.entF (tyE p i y.code) k t = some r ∧ TY.Fit n t ∧ TY.Good (tyE p i y.code) t) ∧ Hid (Below w.heap.size w wr))
      case atStart => exact ⟨TY.start n, _, _, HWs, HE0, HBs⟩
      case round =>
        obtain ⟨t, vq, Ut, hW, hE, hB⟩ := hrel
        have HW := hW
        have HE := hE
        have HB := hB
        obtain ⟨k', rfl⟩ : ∃ k', gk = k' + 1 := by
          cases gk with
          | zero => have h := hE.out.1; unfold TY.entF at h; cases h
          | succ k => exact ⟨k, rfl⟩
        rename World => wr
        have e8 : wr.cell? ⟨G, 8, none⟩ = some vq := obj_cell hW.out.obj rfl
        have e6 : wr.cell? ⟨G, 6, none⟩ = some (.slice (some ⟨gS, 0, none⟩) n n) := obj_cell hW.out.obj rfl
        have e7 : wr.cell? ⟨G, 7, none⟩ = some (.slice (some ⟨gR, 0, none⟩) n n) := obj_cell hW.out.obj rfl
        obtain ⟨qa, qc, rfl⟩ := owns_form hW.out.qu
        by_cases hwt : t.waits = []
        · have hR : r = (0, 0, t) := by
            have h := hE.out.1
            unfold TY.entF at h
            rw [if_pos hwt] at h
            exact (Option.some.inj h).symm
          have HFin := Lib.hid (show ∀ m, EntQ p i w (.returned (.tuple #[.slice (some ⟨gS, 0, none⟩) n n, .slice (some ⟨gR, 0, none⟩) n n, .int .i64 0, .int .i64 0])) (wr.drewN m) from fun m => by
            have hb := Below_drewN wr.heap.size wr m
            have hw2 := hW.out.below hb
            obtain ⟨l1, l2, l3⟩ := hw2.len
            refine HQo.out _ _ _ (hB.out.trans (hb.mono hB.out.size)) (by rw [hR]) ?_ ?_ ?_
            · rw [hR]
              exact grid_own (own_owns hw2.st l2.symm rfl) (fun j u l hu hl => row_of_owns (hw2.rows.row j u l hu hl) (hw2.fit l (List.mem_of_getElem? hl)).2)
            · rw [hR]
              exact bools_of_owns (own_owns hw2.re l3.symm rfl)
            · rw [hR]
              exact fun st hst => (hw2.fit st hst).1)
          rw [hwt] at e8
          have q9 : ((0 : Int) < ((([] : List Nat).length : Nat) : Int)) = False := eq_false (by simp)
          have e8 : wr.cell? ⟨G, 8, none⟩ = some (.slice qa 0 qc) := e8
          clear hW hE hB hwt hR
          go_wp2_with fail
          go_quiet (fail)
          go_wp2_with fail
          go_returns
          exact HFin.out _
        · obtain ⟨q, pc, hqp⟩ : ∃ q pc, t.waits = q ++ [pc] := ⟨t.waits.dropLast, t.waits.getLast hwt, (List.dropLast_concat_getLast hwt).symm⟩
          obtain ⟨ta, tb, tw⟩ := t
          simp only at hqp hwt
          subst hqp
          have hEu := hE.out.1
          have hlast : TY.lastF (q ++ [pc]) = pc := by simp [TY.lastF]
          unfold TY.entF at hEu
          rw [if_neg hwt] at hEu
          simp only [hlast, List.dropLast_concat] at hEu
          obtain ⟨f1, f2, f3, f4⟩ := TY.visit_told (E := tyE p i y.code) (by have h := hE.out.2.1; rw [← HN.out] at h; exact h) hE.out.2.2
          have hpcn : pc < n := hE.out.2.1.wl pc (by simp)
          have hlenq : (q ++ [pc]).length = q.length + 1 := by simp
          have hq300 : q.length ≤ 1000 := by
            have h : (q ++ [pc]).length + TY.un tb ≤ n := hE.out.2.1.cnt
            rw [hlenq] at h
            omega
          have HTk := Lib.hid (queue_take hW.out.quAt hq300)
          have HWn := hW
          rw [hlenq] at e8 HTk HWn
          have HF1 := Lib.hid (show TY.Fit n ⟨ta, tb, q⟩ by have h := f1; rw [show (tyE p i y.code).n = n from HN.out] at h; exact h)
          have HF2 := Lib.hid (show TY.Fit n (TY.visitF (tyE p i y.code) pc ⟨ta, tb, q⟩).2 by have h := f2; rw [show (tyE p i y.code).n = n from HN.out] at h; exact h)
          have HF4 := Lib.hid f4
          have HEu := Lib.hid hEu
          have HPc := Lib.hid hpcn
          obtain ⟨nq, hnq⟩ : ∃ nq, q.length = nq := ⟨_, rfl⟩
          rw [hnq] at e8 hq300
          have q9 : ((0 : Int) < (nq : Int) + 1) = True := eq_true (by omega)
          clear hW hE hB hwt hlast f1 f2 f3 f4 hEu hpcn hlenq e6 e7
          rw [hnq] at HTk HWn
          clear hnq
          go_wp2_with fail
          refine HTk.out.mono ?_; rintro e w2 ⟨rfl, vq2, hQ2, hob2, hF2⟩
          have hW2 := HWn.out.queued hQ2 (Or.inl (by simpa [Value.ownBlock] using hob2)) (hF2.more fun _ _ x => Or.inl x)
          have hB2 := HB.out.trans (hF2.below (B := w.heap.size) (fun k hk => by have := HW.out.hB; omega) HB.out.size)
          have HW2 := Lib.hid hW2
          have HB2 := Lib.hid hB2
          have hBb := hB2
          have HVi := Lib.hid (walk_visit hW2 (HP.out.below hBb) (HT.out.1.below hBb) (HT.out.2.below hBb) hf (HCo.out.below insR_stable hBb) HN.out hy300 HOk.out pc HPc.out HF1.out)
          clear hQ2 hob2 hF2 hW2 hB2 hBb HTk e8
          obtain ⟨V, hV⟩ : ∃ V, TY.visitF (tyE p i y.code) pc ⟨ta, tb, q⟩ = V := ⟨_, rfl⟩
          rw [hV] at HVi HF2 HF4 HEu
          clear hV
          obtain ⟨V1, V2⟩ := V
          go_wp2_with fail
          refine HVi.out.mono ?_; rintro e w3 ⟨rfl, vq3, U3, hW3, hb3⟩
          have HW3 := Lib.hid hW3
          have HB3 := Lib.hid (HB2.out.trans hb3)
          clear hW3 hb3
          by_cases hV0 : V1 = 0
          · subst hV0
            have HEn := Lib.hid (show TY.entF (tyE p i y.code) k' V2 = some r by have h := HEu.out; rwa [if_neg (by simp)] at h)
            have HG2 := Lib.hid (HF4.out rfl)
            go_wp2_with fail
            go_roundg k'
            case measure => omega
            case rel => exact ⟨V2, vq3, U3, HW3, Lib.hid ⟨HEn.out, HF2.out, HG2.out⟩, HB3⟩
          · have qv : (V1 != 0) = true := by simpa using hV0
            have hR : r = ((pc : Int), V1, V2) := by have h := HEu.out; rw [if_pos hV0] at h; exact (Option.some.inj h).symm
            have HFin := Lib.hid (show EntQ p i w (.returned (.tuple #[.slice none 0 0, .slice none 0 0, .int .i64 (pc : Int), .int .i64 V1])) w3 by have h := HQe.out w3 HB3.out (by rw [hR]; exact hV0); rw [hR] at h; exact h)
            clear hV0 hR
            go_wp2_with fail
            go_returns
            exact HFin.out
  ·
    go_simp
    refine hK.out _ _ ?_ (fun hHeld => ?_)
    · (try dsimp only); first | assumption | exact Below.alloc hHeld hHeld.size _ | exact (Below.refl _ _).drew | exact Below.drew (Below.refl _ _) | exact Below_drewN _ _ _ | exact Below.refl _ _ | (trace_state; fail)
    clear hK K
    try simp only [Act.put, List.setIfInBounds_toArray, List.set_cons_zero, List.set_cons_succ]
    refine wpAnyH_ready (rs := [5]) (by kernel_rfl) (by simp) ?_
    refine AllReadyH.cons (o := { dst := some 35, op := Op.makeSlice 30 (Operand.tmp 34) (Operand.tmp 34), type := 30, pos := _, after := #[{ on := 4, ground := Ground.data }, { on := 4, ground := Ground.data }], guard := none }) rfl (fun K hK => ?_) AllReadyH.nil
    go_simp
    refine hK.out _ _ ?_ (fun hHeld => ?_)
    · (try dsimp only); first | assumption | exact Below.alloc hHeld hHeld.size _ | exact (Below.refl _ _).drew | exact Below.drew (Below.refl _ _) | exact Below_drewN _ _ _ | exact Below.refl _ _ | (trace_state; fail)
    clear hK K
    try simp only [Act.put, List.setIfInBounds_toArray, List.set_cons_zero, List.set_cons_succ]
    refine wpAnyH_take (i := 9) (oi := { dst := some 39, op := Op.build 57 #[(0, Operand.tmp 30), (1, Operand.tmp 31), (2, Operand.tmp 32), (3, Operand.tmp 35), (4, Operand.tmp 38)], type := 57, pos := _, after := #[{ on := 0, ground := Ground.data }, { on := 1, ground := Ground.data }, { on := 2, ground := Ground.data }, { on := 5, ground := Ground.data }, { on := 8, ground := Ground.data }], guard := none }) (v := ?_) rfl (by kernel_rfl) (by kernel_rfl) (by kernel_rfl) (fun _ _ _ h => h) (Or.inl ⟨by rfl, ?_⟩) (by assumption) ?_
    rotate_left
    · intro wt hSw; (try dsimp only at hSw); have e0 := cellB hSw e0 zb1; have e1 := cellB hSw e1 zb1; have e2 := cellB hSw e2 zb1; have e3 := cellB hSw e3 zb1; first | (go_simp; done) | (go_simp; with_reducible rfl) | (trace_state; fail)
    try simp only [Act.put, List.setIfInBounds_toArray, List.set_cons_zero, List.set_cons_succ]
    refine wpAnyH_ready (rs := [10]) (by kernel_rfl) (by simp) ?_
    refine AllReadyH.cons (o := { dst := some 40, op := Op.box 57 (Operand.tmp 39), type := 54, pos := _, after := #[{ on := 9, ground := Ground.data }], guard := none }) rfl (fun K hK => ?_) AllReadyH.nil
    go_simp
    refine hK.out _ _ ?_ (fun hHeld => ?_)
    · (try dsimp only); first | assumption | exact Below.alloc hHeld hHeld.size _ | exact (Below.refl _ _).drew | exact Below.drew (Below.refl _ _) | exact Below_drewN _ _ _ | exact Below.refl _ _ | (trace_state; fail)
    clear hK K
    try simp only [Act.put, List.setIfInBounds_toArray, List.set_cons_zero, List.set_cons_succ]
    refine wpAnyH_take (i := 11) (oi := { dst := some 11, op := Op.assign (Operand.tmp 40), type := 54, pos := _, after := #[{ on := 10, ground := Ground.data }, { on := 0, ground := Ground.phase }, { on := 1, ground := Ground.phase }, { on := 2, ground := Ground.phase }, { on := 3, ground := Ground.phase }, { on := 4, ground := Ground.phase }, { on := 5, ground := Ground.phase }, { on := 6, ground := Ground.phase }, { on := 7, ground := Ground.phase }, { on := 8, ground := Ground.phase }, { on := 9, ground := Ground.phase }, { on := 10, ground := Ground.phase }], guard := none }) (v := ?_) rfl (by kernel_rfl) (by kernel_rfl) (by kernel_rfl) (fun _ _ _ h => h) (Or.inl ⟨by rfl, ?_⟩) (by assumption) ?_
    rotate_left
    · intro wt hSw; (try dsimp only at hSw); have e0 := cellB hSw e0 zb1; have e1 := cellB hSw e1 zb1; have e2 := cellB hSw e2 zb1; have e3 := cellB hSw e3 zb1; first | (go_simp; done) | (go_simp; with_reducible rfl) | (trace_state; fail)
    try simp only [Act.put, List.setIfInBounds_toArray, List.set_cons_zero, List.set_cons_succ]
    refine wpAnyH_done (by kernel_rfl) ?_ _
    generalize hW5 : World.drew (World.alloc (World.alloc (World.alloc w1 _) _) _) = W5
    have hWB := ent_wat (B := w.heap.size) (n := n) (by first | exact Or.inl hW5 | exact Or.inr hW5) HMS.out (by have := Hb1.out.size; have := Hb2.out.size; omega) hy300
    clear hW5
    obtain ⟨G, hG⟩ : ∃ G, w1.heap.size + 1 + 1 = G := ⟨_, rfl⟩
    rw [hG] at hWB
    rw [hG]
    clear hG
    obtain ⟨gS, gR, hWA, hB5⟩ := hWB
    have HWA := Lib.hid hWA
    have HB5 := Lib.hid (Hb1.out.trans ((Hb2.out.trans (hB5.mono Hb2.out.size)).mono Hb1.out.size))
    clear hWA hB5 e0 e1 e2 e3 c4 hmS hmR
    by_cases hn0 : n = 0
    · subst hn0
      have q8 : ((0 : Int) < ((0 : Nat) : Int)) = False := eq_false (by simp)
      have HWs : Hid (WAt w.heap.size G gS gR 0 ⟨cv, pv, bv, .slice (some ⟨b3, off3, none⟩) n3 t3, .int .i64 (i : Int), .slice sc 0 tc⟩ (.slice none 0 0) (List.replicate 0 (.slice none 0 0)) (TY.start 0) W5) := Lib.hid (by have h := HWA.out; exact h)
      go_wp2_with fail
      go_loopg [12, 13] (0 + 1) (fun k _ _ wr => ∃ (t : WS) (vq : Value) (Ut : List Value), Hid (WAt w.heap.size G gS gR 0 ⟨cv, pv, bv, .slice (some ⟨b3, off3, none⟩) n3 t3, .int .i64 (i : Int), .slice sc 0 tc⟩ vq Ut t wr) ∧ Hid (TY.entF (tyE p i y.code) k t = some r ∧ TY.Fit 0 t ∧ TY.Good (tyE p i y.code) t) ∧ Hid (Below w.heap.size w wr))
      case atStart => exact ⟨TY.start 0, _, _, HWs, HE0, HB5⟩
      case round =>
        obtain ⟨t, vq, Ut, hW, hE, hB⟩ := hrel
        have HW := hW
        have HE := hE
        have HB := hB
        obtain ⟨k', rfl⟩ : ∃ k', gk = k' + 1 := by
          cases gk with
          | zero => have h := hE.out.1; unfold TY.entF at h; cases h
          | succ k => exact ⟨k, rfl⟩
        rename World => wr
        have e8 : wr.cell? ⟨G, 8, none⟩ = some vq := obj_cell hW.out.obj rfl
        have e6 : wr.cell? ⟨G, 6, none⟩ = some (.slice (some ⟨gS, 0, none⟩) 0 0) := obj_cell hW.out.obj rfl
        have e7 : wr.cell? ⟨G, 7, none⟩ = some (.slice (some ⟨gR, 0, none⟩) 0 0) := obj_cell hW.out.obj rfl
        obtain ⟨qa, qc, rfl⟩ := owns_form hW.out.qu
        by_cases hwt : t.waits = []
        · have hR : r = (0, 0, t) := by
            have h := hE.out.1
            unfold TY.entF at h
            rw [if_pos hwt] at h
            exact (Option.some.inj h).symm
          have HFin := Lib.hid (show ∀ m, EntQ p i w (.returned (.tuple #[.slice (some ⟨gS, 0, none⟩) 0 0, .slice (some ⟨gR, 0, none⟩) 0 0, .int .i64 0, .int .i64 0])) (wr.drewN m) from fun m => by
            have hb := Below_drewN wr.heap.size wr m
            have hw2 := hW.out.below hb
            obtain ⟨l1, l2, l3⟩ := hw2.len
            refine HQo.out _ _ _ (hB.out.trans (hb.mono hB.out.size)) (by rw [hR]) ?_ ?_ ?_
            · rw [hR]
              exact grid_own (own_owns hw2.st l2.symm rfl) (fun j u l hu hl => row_of_owns (hw2.rows.row j u l hu hl) (hw2.fit l (List.mem_of_getElem? hl)).2)
            · rw [hR]
              exact bools_of_owns (own_owns hw2.re l3.symm rfl)
            · rw [hR]
              exact fun st hst => (hw2.fit st hst).1)
          rw [hwt] at e8
          have q9 : ((0 : Int) < ((([] : List Nat).length : Nat) : Int)) = False := eq_false (by simp)
          have e8 : wr.cell? ⟨G, 8, none⟩ = some (.slice qa 0 qc) := e8
          clear hW hE hB hwt hR
          go_wp2_with fail
          go_quiet (fail)
          go_wp2_with fail
          go_returns
          exact HFin.out _
        · obtain ⟨q, pc, hqp⟩ : ∃ q pc, t.waits = q ++ [pc] := ⟨t.waits.dropLast, t.waits.getLast hwt, (List.dropLast_concat_getLast hwt).symm⟩
          obtain ⟨ta, tb, tw⟩ := t
          simp only at hqp hwt
          subst hqp
          have hEu := hE.out.1
          have hlast : TY.lastF (q ++ [pc]) = pc := by simp [TY.lastF]
          unfold TY.entF at hEu
          rw [if_neg hwt] at hEu
          simp only [hlast, List.dropLast_concat] at hEu
          obtain ⟨f1, f2, f3, f4⟩ := TY.visit_told (E := tyE p i y.code) (by have h := hE.out.2.1; rw [← HN.out] at h; exact h) hE.out.2.2
          have hpcn : pc < 0 := hE.out.2.1.wl pc (by simp)
          have hlenq : (q ++ [pc]).length = q.length + 1 := by simp
          have hq300 : q.length ≤ 1000 := by
            have h : (q ++ [pc]).length + TY.un tb ≤ 0 := hE.out.2.1.cnt
            rw [hlenq] at h
            omega
          have HTk := Lib.hid (queue_take hW.out.quAt hq300)
          have HWn := hW
          rw [hlenq] at e8 HTk HWn
          have HF1 := Lib.hid (show TY.Fit 0 ⟨ta, tb, q⟩ by have h := f1; rw [show (tyE p i y.code).n = 0 from HN.out] at h; exact h)
          have HF2 := Lib.hid (show TY.Fit 0 (TY.visitF (tyE p i y.code) pc ⟨ta, tb, q⟩).2 by have h := f2; rw [show (tyE p i y.code).n = 0 from HN.out] at h; exact h)
          have HF4 := Lib.hid f4
          have HEu := Lib.hid hEu
          have HPc := Lib.hid hpcn
          obtain ⟨nq, hnq⟩ : ∃ nq, q.length = nq := ⟨_, rfl⟩
          rw [hnq] at e8 hq300
          have q9 : ((0 : Int) < (nq : Int) + 1) = True := eq_true (by omega)
          clear hW hE hB hwt hlast f1 f2 f3 f4 hEu hpcn hlenq e6 e7
          rw [hnq] at HTk HWn
          clear hnq
          go_wp2_with fail
          refine HTk.out.mono ?_; rintro e w2 ⟨rfl, vq2, hQ2, hob2, hF2⟩
          have hW2 := HWn.out.queued hQ2 (Or.inl (by simpa [Value.ownBlock] using hob2)) (hF2.more fun _ _ x => Or.inl x)
          have hB2 := HB.out.trans (hF2.below (B := w.heap.size) (fun k hk => by have := HW.out.hB; omega) HB.out.size)
          have HW2 := Lib.hid hW2
          have HB2 := Lib.hid hB2
          have hBb := hB2
          have HVi := Lib.hid (walk_visit hW2 (HP.out.below hBb) (HT.out.1.below hBb) (HT.out.2.below hBb) hf (HCo.out.below insR_stable hBb) HN.out hy300 HOk.out pc HPc.out HF1.out)
          clear hQ2 hob2 hF2 hW2 hB2 hBb HTk e8
          obtain ⟨V, hV⟩ : ∃ V, TY.visitF (tyE p i y.code) pc ⟨ta, tb, q⟩ = V := ⟨_, rfl⟩
          rw [hV] at HVi HF2 HF4 HEu
          clear hV
          obtain ⟨V1, V2⟩ := V
          go_wp2_with fail
          refine HVi.out.mono ?_; rintro e w3 ⟨rfl, vq3, U3, hW3, hb3⟩
          have HW3 := Lib.hid hW3
          have HB3 := Lib.hid (HB2.out.trans hb3)
          clear hW3 hb3
          by_cases hV0 : V1 = 0
          · subst hV0
            have HEn := Lib.hid (show TY.entF (tyE p i y.code) k' V2 = some r by have h := HEu.out; rwa [if_neg (by simp)] at h)
            have HG2 := Lib.hid (HF4.out rfl)
            go_wp2_with fail
            go_roundg k'
            case measure => omega
            case rel => exact ⟨V2, vq3, U3, HW3, Lib.hid ⟨HEn.out, HF2.out, HG2.out⟩, HB3⟩
          · have qv : (V1 != 0) = true := by simpa using hV0
            have hR : r = ((pc : Int), V1, V2) := by have h := HEu.out; rw [if_pos hV0] at h; exact (Option.some.inj h).symm
            have HFin := Lib.hid (show EntQ p i w (.returned (.tuple #[.slice none 0 0, .slice none 0 0, .int .i64 (pc : Int), .int .i64 V1])) w3 by have h := HQe.out w3 HB3.out (by rw [hR]; exact hV0); rw [hR] at h; exact h)
            clear hV0 hR
            go_wp2_with fail
            go_returns
            exact HFin.out
    · have q8 : ((0 : Int) < (n : Int)) = True := eq_true (by omega)
      have HRe := Lib.hid (walk_reach HWA.out 0 (by omega) (by omega) (.slice none 0 0) [] row_none (by simp) (by simp) (fun x hx => absurd hx List.not_mem_nil))
      go_wp2_with fail
      refine HRe.out.mono ?_; rintro e w6 ⟨rfl, vq6, U6, hW6, hF6, _⟩
      have HWs := Lib.hid (show WAt w.heap.size G gS gR n ⟨cv, pv, bv, .slice (some ⟨b3, off3, none⟩) n3 t3, .int .i64 (i : Int), .slice sc n tc⟩ vq6 U6 (TY.start n) w6 by
        have h := hW6
        unfold TY.start
        rw [if_pos (by omega)]
        exact h)
      have HBs := Lib.hid (HB5.out.trans (hF6.below (B := w.heap.size) (fun k hk => by
        rcases hk with h | h | h | h
        · have := HWA.out.hB; omega
        · have := (owns_lt HWA.out.st (g := gS) rfl).1; omega
        · have := (owns_lt HWA.out.re (g := gR) rfl).1; omega
        · simp [Value.ownBlock] at h) HB5.out.size))
      clear hW6 hF6
      go_wp2_with fail
      go_loopg [12, 13] (n + 1) (fun k _ _ wr => ∃ (t : WS) (vq : Value) (Ut : List Value), Hid (WAt w.heap.size G gS gR n ⟨cv, pv, bv, .slice (some ⟨b3, off3, none⟩) n3 t3, .int .i64 (i : Int), .slice sc n tc⟩ vq Ut t wr) ∧ Hid (TY.entF (tyE p i y.code) k t = some r ∧ TY.Fit n t ∧ TY.Good (tyE p i y.code) t) ∧ Hid (Below w.heap.size w wr))
      case atStart => exact ⟨TY.start n, _, _, HWs, HE0, HBs⟩
      case round =>
        obtain ⟨t, vq, Ut, hW, hE, hB⟩ := hrel
        have HW := hW
        have HE := hE
        have HB := hB
        obtain ⟨k', rfl⟩ : ∃ k', gk = k' + 1 := by
          cases gk with
          | zero => have h := hE.out.1; unfold TY.entF at h; cases h
          | succ k => exact ⟨k, rfl⟩
        rename World => wr
        have e8 : wr.cell? ⟨G, 8, none⟩ = some vq := obj_cell hW.out.obj rfl
        have e6 : wr.cell? ⟨G, 6, none⟩ = some (.slice (some ⟨gS, 0, none⟩) n n) := obj_cell hW.out.obj rfl
        have e7 : wr.cell? ⟨G, 7, none⟩ = some (.slice (some ⟨gR, 0, none⟩) n n) := obj_cell hW.out.obj rfl
        obtain ⟨qa, qc, rfl⟩ := owns_form hW.out.qu
        by_cases hwt : t.waits = []
        · have hR : r = (0, 0, t) := by
            have h := hE.out.1
            unfold TY.entF at h
            rw [if_pos hwt] at h
            exact (Option.some.inj h).symm
          have HFin := Lib.hid (show ∀ m, EntQ p i w (.returned (.tuple #[.slice (some ⟨gS, 0, none⟩) n n, .slice (some ⟨gR, 0, none⟩) n n, .int .i64 0, .int .i64 0])) (wr.drewN m) from fun m => by
            have hb := Below_drewN wr.heap.size wr m
            have hw2 := hW.out.below hb
            obtain ⟨l1, l2, l3⟩ := hw2.len
            refine HQo.out _ _ _ (hB.out.trans (hb.mono hB.out.size)) (by rw [hR]) ?_ ?_ ?_
            · rw [hR]
              exact grid_own (own_owns hw2.st l2.symm rfl) (fun j u l hu hl => row_of_owns (hw2.rows.row j u l hu hl) (hw2.fit l (List.mem_of_getElem? hl)).2)
            · rw [hR]
              exact bools_of_owns (own_owns hw2.re l3.symm rfl)
            · rw [hR]
              exact fun st hst => (hw2.fit st hst).1)
          rw [hwt] at e8
          have q9 : ((0 : Int) < ((([] : List Nat).length : Nat) : Int)) = False := eq_false (by simp)
          have e8 : wr.cell? ⟨G, 8, none⟩ = some (.slice qa 0 qc) := e8
          clear hW hE hB hwt hR
          go_wp2_with fail
          go_quiet (fail)
          go_wp2_with fail
          go_returns
          exact HFin.out _
        · obtain ⟨q, pc, hqp⟩ : ∃ q pc, t.waits = q ++ [pc] := ⟨t.waits.dropLast, t.waits.getLast hwt, (List.dropLast_concat_getLast hwt).symm⟩
          obtain ⟨ta, tb, tw⟩ := t
          simp only at hqp hwt
          subst hqp
          have hEu := hE.out.1
          have hlast : TY.lastF (q ++ [pc]) = pc := by simp [TY.lastF]
          unfold TY.entF at hEu
          rw [if_neg hwt] at hEu
          simp only [hlast, List.dropLast_concat] at hEu
          obtain ⟨f1, f2, f3, f4⟩ := TY.visit_told (E := tyE p i y.code) (by have h := hE.out.2.1; rw [← HN.out] at h; exact h) hE.out.2.2
          have hpcn : pc < n := hE.out.2.1.wl pc (by simp)
          have hlenq : (q ++ [pc]).length = q.length + 1 := by simp
          have hq300 : q.length ≤ 1000 := by
            have h : (q ++ [pc]).length + TY.un tb ≤ n := hE.out.2.1.cnt
            rw [hlenq] at h
            omega
          have HTk := Lib.hid (queue_take hW.out.quAt hq300)
          have HWn := hW
          rw [hlenq] at e8 HTk HWn
          have HF1 := Lib.hid (show TY.Fit n ⟨ta, tb, q⟩ by have h := f1; rw [show (tyE p i y.code).n = n from HN.out] at h; exact h)
          have HF2 := Lib.hid (show TY.Fit n (TY.visitF (tyE p i y.code) pc ⟨ta, tb, q⟩).2 by have h := f2; rw [show (tyE p i y.code).n = n from HN.out] at h; exact h)
          have HF4 := Lib.hid f4
          have HEu := Lib.hid hEu
          have HPc := Lib.hid hpcn
          obtain ⟨nq, hnq⟩ : ∃ nq, q.length = nq := ⟨_, rfl⟩
          rw [hnq] at e8 hq300
          have q9 : ((0 : Int) < (nq : Int) + 1) = True := eq_true (by omega)
          clear hW hE hB hwt hlast f1 f2 f3 f4 hEu hpcn hlenq e6 e7
          rw [hnq] at HTk HWn
          clear hnq
          go_wp2_with fail
          refine HTk.out.mono ?_; rintro e w2 ⟨rfl, vq2, hQ2, hob2, hF2⟩
          have hW2 := HWn.out.queued hQ2 (Or.inl (by simpa [Value.ownBlock] using hob2)) (hF2.more fun _ _ x => Or.inl x)
          have hB2 := HB.out.trans (hF2.below (B := w.heap.size) (fun k hk => by have := HW.out.hB; omega) HB.out.size)
          have HW2 := Lib.hid hW2
          have HB2 := Lib.hid hB2
          have hBb := hB2
          have HVi := Lib.hid (walk_visit hW2 (HP.out.below hBb) (HT.out.1.below hBb) (HT.out.2.below hBb) hf (HCo.out.below insR_stable hBb) HN.out hy300 HOk.out pc HPc.out HF1.out)
          clear hQ2 hob2 hF2 hW2 hB2 hBb HTk e8
          obtain ⟨V, hV⟩ : ∃ V, TY.visitF (tyE p i y.code) pc ⟨ta, tb, q⟩ = V := ⟨_, rfl⟩
          rw [hV] at HVi HF2 HF4 HEu
          clear hV
          obtain ⟨V1, V2⟩ := V
          go_wp2_with fail
          refine HVi.out.mono ?_; rintro e w3 ⟨rfl, vq3, U3, hW3, hb3⟩
          have HW3 := Lib.hid hW3
          have HB3 := Lib.hid (HB2.out.trans hb3)
          clear hW3 hb3
          by_cases hV0 : V1 = 0
          · subst hV0
            have HEn := Lib.hid (show TY.entF (tyE p i y.code) k' V2 = some r by have h := HEu.out; rwa [if_neg (by simp)] at h)
            have HG2 := Lib.hid (HF4.out rfl)
            go_wp2_with fail
            go_roundg k'
            case measure => omega
            case rel => exact ⟨V2, vq3, U3, HW3, Lib.hid ⟨HEn.out, HF2.out, HG2.out⟩, HB3⟩
          · have qv : (V1 != 0) = true := by simpa using hV0
            have hR : r = ((pc : Int), V1, V2) := by have h := HEu.out; rw [if_pos hV0] at h; exact (Option.some.inj h).symm
            have HFin := Lib.hid (show EntQ p i w (.returned (.tuple #[.slice none 0 0, .slice none 0 0, .int .i64 (pc : Int), .int .i64 V1])) w3 by have h := HQe.out w3 HB3.out (by rw [hR]; exact hV0); rw [hR] at h; exact h)
            clear hV0 hR
            go_wp2_with fail
            go_returns
            exact HFin.out
end Go.Proofs.YtnkmnmlhjanplaaDoor

/- Layer 20: typing.Highest. -/
namespace Go.Proofs.YtnkmnmlhjanplaaDoor
open Go.RowKit
set_option linter.unusedSimpArgs false
set_option linter.unusedVariables false
/-- how high the highest of the first k is -/
def highF (E : TY.Env) (s : WS) : Nat → Nat
  | 0 => 0
  | k + 1 => if s.reached.getD k false = true then max (max (highF E s k) (s.stacks.getD k []).length) (E.ss k (s.stacks.getD k [])).length else highF E s k
theorem highF_small (E : TY.Env) (s : WS) (h1 : ∀ st ∈ s.stacks, st.length ≤ 32) (h2 : ∀ k st, (E.ss k st).length ≤ 32) : ∀ k, highF E s k ≤ 32
  | 0 => Nat.zero_le _
  | k + 1 => by
    have ih := highF_small E s h1 h2 k
    have h3 := h2 k (s.stacks.getD k [])
    have h4 : (s.stacks.getD k []).length ≤ 32 := by
      rcases getD_or s.stacks k [] with h | h
      · exact h1 _ h
      · rw [h]; simp
    unfold highF
    split <;> omega
theorem highF_le (E : TY.Env) (s : WS) : ∀ (n k : Nat), k < n → s.reached.getD k false = true → (s.stacks.getD k []).length ≤ highF E s n ∧ (E.ss k (s.stacks.getD k [])).length ≤ highF E s n
  | 0, k, h, _ => by omega
  | n + 1, k, h, hr => by
    by_cases hk : k = n
    · subst hk
      unfold highF
      rw [if_pos hr]
      omega
    · have ih := highF_le E s n k (by omega) hr
      unfold highF
      split <;> omega
theorem ent_good {E : TY.Env} {r : Int × Int × WS} (h : TY.entF E (E.n + 1) (TY.start E.n) = some r) (h0 : r.2.1 = 0) : TY.Fit E.n r.2.2 ∧ ∀ pc, r.2.2.reached.getD pc false = true → TY.Cl E r.2.2 pc := by
  obtain ⟨h1, h2, h3⟩ := TY.start_told E
  obtain ⟨r', h4, h5⟩ := TY.ent_told E (E.n + 1) (TY.start E.n) h1 h2 (by omega)
  rw [h] at h4
  cases h4
  exact (h5 h0).2
def HighQ (p : Pr) (u : Int) (w : World) (e : Ending) (w' : World) : Prop := Below w.heap.size w w' ∧
  (((chkP p u).2 ≠ 0 ∧ e = .returned (.int .i64 0)) ∨
   ((chkP p u).2 = 0 ∧ ∃ r, TY.entF (tyE p u (unAt p u).code) ((unAt p u).code.length + 1) (TY.start (unAt p u).code.length) = some r ∧
     ((r.2.1 ≠ 0 ∧ e = .returned (.int .i64 0)) ∨ (r.2.1 = 0 ∧ e = .returned (.int .i64 (highF (tyE p u (unAt p u).code) r.2.2 r.2.2.stacks.length : Int))))))
set_option maxRecDepth 100000 in
set_option maxHeartbeats 4000000 in
theorem typing_Highest (cv pv bv uv : Value) (p : Pr) (u : Int) (w : World) (hP : PrAt w cv pv bv uv p) (hT : TabR w) (hBt : BTab w) (hf : fewP p = true) :
    Calls Tryd.prog 10 #[.agg #[cv, pv, bv, uv], .int .i64 u] w (HighQ p u w) := by
  obtain ⟨W1, hW1⟩ : ∃ W1, W1 = w.alloc (.cells #[cv, pv, bv, uv] 27) := ⟨_, rfl⟩
  have hb1 : Below w.heap.size w W1 := by rw [hW1]; exact (Below.refl _ _).alloc (Nat.le_refl _) _
  have hbx : W1.heap[w.heap.size]? = some (.cells #[cv, pv, bv, uv] 27 (0, 0)) := by rw [hW1]; exact get_last rfl
  have HW1 := Lib.hid hW1
  have Hb1 := Lib.hid hb1
  have HEn := Lib.hid (typing_Entries cv pv bv uv p u W1 (hP.below hb1) (hT.below hb1) (hBt.below hb1) hf)
  have HP := Lib.hid hP
  have HT := Lib.hid (And.intro hT hBt)
  have Hbx := Lib.hid hbx
  clear hP hT hBt hW1 hb1 hbx
  go_enter Tryd.func10, Tryd.ntmps10
  go_wp2_with fail
  rw [← HW1.out]
  refine HEn.out.mono ?_; rintro e w1 ⟨hb2, ⟨hc, rfl⟩ | ⟨hc, r, hr, ⟨h0, rfl⟩ | ⟨h0, vS, vR, rfl, hS, hR, hL⟩⟩⟩
  · have HB := Lib.hid (Hb1.out.trans (hb2.mono Hb1.out.size))
    have HQ := Lib.hid (show HighQ p u w (.returned (.int .i64 0)) w1 from ⟨HB.out, Or.inl ⟨hc, rfl⟩⟩)
    have q : ((chkP p u).2 != 0) = true := by simpa using hc
    generalize (chkP p u).2 = z2 at *
    generalize (chkP p u).1 = z1 at *
    clear hb2 hc
    go_wp2_with fail
    go_ret
    exact HQ.out
  · have HB := Lib.hid (Hb1.out.trans (hb2.mono Hb1.out.size))
    have HQ := Lib.hid (show HighQ p u w (.returned (.int .i64 0)) w1 from ⟨HB.out, Or.inr ⟨hc, r, hr, Or.inl ⟨h0, rfl⟩⟩⟩)
    have q : (r.2.1 != 0) = true := by simpa using h0
    generalize r.2.1 = z2 at *
    generalize r.1 = z1 at *
    clear hb2 hc hr
    go_wp2_with fail
    go_ret
    exact HQ.out
  obtain ⟨hu, hOk⟩ := chk_ok hc
  obtain ⟨i, rfl⟩ := Int.eq_ofNat_of_zero_le hu.1
  obtain ⟨y, hy⟩ := get_some (L := p.units) (n := i) (by omega)
  have huy : unAt p i = y := by unfold unAt; simp [List.getD, hy]
  have hy300 := (fewU_is ((fewP_is hf).2.2.2 y (List.mem_of_getElem? hy))).2.2.2
  have hPs := HP.out
  obtain ⟨s3, t3, rfl⟩ := row_get hPs.us
  obtain ⟨b3, off3, rfl, hbw3, hc3⟩ := unit_at hPs.us (k := i) (lt_of_get hy)
  obtain ⟨u1, u3, u4, c0, c1, c2, c3, c4, hU⟩ := hc3 i y hy
  have hcode := hU.cs
  obtain ⟨sc, tc, rfl⟩ := row_get hcode
  rw [huy] at hr
  obtain ⟨z0, z1, s⟩ := r
  simp only at h0 hS hR hL hr
  subst h0
  have HQ := Lib.hid (fun w' (hb : Below w.heap.size w w') => (show HighQ p i w (.returned (.int .i64 (highF (tyE p i y.code) s s.stacks.length : Int))) w' from ⟨hb, Or.inr ⟨hc, (z0, 0, s), by rw [huy]; exact hr, Or.inr ⟨rfl, by rw [huy]⟩⟩⟩))
  obtain ⟨hfit, hcl⟩ := ent_good (E := tyE p i y.code) hr rfl
  obtain ⟨sa, sb, rfl⟩ := row_get hS
  obtain ⟨ra, rb, rfl⟩ := row_get hR
  obtain ⟨n, hn⟩ : ∃ n, y.code.length = n := ⟨_, rfl⟩
  have hsn : s.stacks.length = n := hfit.ls.trans hn
  have hrn : s.reached.length = n := hfit.lr.trans hn
  have HN := Lib.hid (And.intro hn (And.intro hsn hrn))
  have HS := Lib.hid hS
  have HR := Lib.hid hR
  have HL := Lib.hid hL
  have HCl := Lib.hid hcl
  have HCo := Lib.hid hcode
  have HB1 := Lib.hid (Hb1.out.trans (hb2.mono Hb1.out.size))
  have HBx := Lib.hid (obj_below Hbx.out hb2 (heap_lt Hbx.out))
  have HSm := Lib.hid (highF_small (tyE p i y.code) s hL (fun k st => stepS_len _ _ _ _ _ _))
  have HUy := Lib.hid huy
  have c4 := (HB1.out.cell (p := ⟨b3, off3 + i * 5 + 4, none⟩) hbw3).trans c4
  have zb3 : b3 < w1.heap.size := Nat.lt_of_lt_of_le hbw3 HB1.out.size
  have q1 : ((i : Int) < (p.units.length : Int)) = True := eq_true hu.2
  have q1' : (i < p.units.length) = True := eq_true (by omega)
  rw [hsn] at HQ HS ⊢
  rw [hrn] at HR ⊢
  rw [hn] at c4 hy300 HCo
  obtain ⟨n3, hn3⟩ : ∃ n, p.units.length = n := ⟨_, rfl⟩
  rw [hn3] at q1 q1' HBx HP ⊢
  clear hb2 hc hr hu hOk hy huy hPs hbw3 hc3 c0 c1 c2 c3 hU hcode hS hR hL hfit hcl hn hsn hrn hn3 Hbx HW1
  go_wp2_with fail
  go_loopw [9, 10, 11, 26] (fun mm _ _ jj wr => ∃ k : Nat, k ≤ n ∧ jj = .int .i64 k ∧ mm = .int .i64 (highF (tyE p i y.code) s k : Int) ∧ Hid (Below w1.heap.size w1 wr)) (fun _ _ _ jj _ => n - (intOf jj).toNat)
  case atStart => exact ⟨0, Nat.zero_le _, rfl, rfl, Lib.hid (Below.refl _ _)⟩
  case round =>
    obtain ⟨k, hk, rfl, rfl, hB⟩ := hrel
    rename World => wr
    have HB := hB
    have hm32 := HSm.out k
    obtain ⟨M, hM⟩ : ∃ M, highF (tyE p i y.code) s k = M := ⟨_, rfl⟩
    have HM := Lib.hid hM
    rw [hM] at hm32 ⊢
    by_cases hlt : k < n
    case neg =>
      obtain rfl : n = k := by omega
      have q2 : ((n : Int) < (n : Int)) = False := eq_false (by omega)
      have q2' : (n < n) = False := eq_false (by omega)
      have HF := Lib.hid (show HighQ p i w (.returned (.int .i64 (M : Int))) wr by rw [← hM]; exact HQ.out wr (HB1.out.trans (hB.out.mono HB1.out.size)))
      clear hB hlt hk hM
      go_wp2_with fail
      go_ret
      exact HF.out
    have q2 : ((k : Int) < (n : Int)) = True := eq_true (by omega)
    have q2' : (k < n) = True := eq_true hlt
    have hk62 : k ≤ 9223372036854775806 := by omega
    have HK := Lib.hid hlt
    have hBw := HB1.out.trans (hB.out.mono HB1.out.size)
    obtain ⟨l, hl⟩ := get_some (L := s.stacks) (n := k) (by rw [HN.out.2.1]; exact hlt)
    obtain ⟨gs, os, su, sc2, e1, hgs, _, _, s0, hsl⟩ := grid_at HS.out hl
    subst e1
    have s0 := cellB hB.out s0 hgs
    have hsl := hsl.below intR_stable hB.out
    obtain ⟨gr, orr, e2, hgr, _, _, r0⟩ := bools_at HR.out (k := k) (by rw [HN.out.2.2]; exact hlt)
    subst e2
    have r0 := cellB hB.out (r0 k (by rw [HN.out.2.2]; exact hlt)) hgr
    have hl32 := HL.out l (List.mem_of_getElem? hl)
    have hld : s.stacks.getD k [] = l := by simp [List.getD, hl]
    obtain ⟨rz, hrz⟩ : ∃ b, s.reached.getD k false = b := ⟨_, rfl⟩
    rw [hrz] at r0
    cases rz
    case false =>
      have HMn := Lib.hid (show highF (tyE p i y.code) s (k + 1) = M by rw [← hM]; show (if s.reached.getD k false = true then _ else _) = _; rw [hrz]; rfl)
      generalize l.length = nl at *
      clear hB hlt hk hM hl hgs hsl hgr hld hrz hBw
      go_wp2_with fail
      go_roundw
      case rel => exact ⟨k + 1, by have := HK.out; omega, by simp, by rw [HMn.out], HB⟩
      case measure => have := HK.out; first | (simp [intOf]; done) | (simp [intOf]; omega)
    have HMn := Lib.hid (show highF (tyE p i y.code) s (k + 1) = max (max M l.length) ((tyE p i y.code).ss k l).length by
      show (if s.reached.getD k false = true then _ else _) = _
      rw [if_pos hrz, hM, hld])
    obtain ⟨x, hx⟩ := get_some (L := y.code) (n := k) (by rw [HN.out.1]; exact hlt)
    have hxd : y.code.getD k (0, 0, 0) = x := by simp [List.getD, hx]
    obtain ⟨bc, oc, e3, hbc, hcc⟩ := bh_at HCo.out (k := k) (by rw [HN.out.1]; exact hlt)
    obtain ⟨k0, k1, k2, i0, i1, i2⟩ := hcc k x hx
    have k0 := (hBw.cell (p := ⟨bc, oc + k * 3, none⟩) hbc).trans k0
    have k1 := (hBw.cell (p := ⟨bc, oc + k * 3 + 1, none⟩) hbc).trans k1
    have k2 := (hBw.cell (p := ⟨bc, oc + k * 3 + 2, none⟩) hbc).trans k2
    have zc : bc < wr.heap.size := Nat.lt_of_lt_of_le hbc hBw.size
    have hbxo := obj_below HBx.out hB.out (heap_lt HBx.out)
    have e0 : wr.cell? ⟨w.heap.size, 0, none⟩ = some cv := obj_cell hbxo rfl
    have e1 : wr.cell? ⟨w.heap.size, 1, none⟩ = some pv := obj_cell hbxo rfl
    have e2 : wr.cell? ⟨w.heap.size, 2, none⟩ = some bv := obj_cell hbxo rfl
    have e3' : wr.cell? ⟨w.heap.size, 3, none⟩ = some (.slice (some ⟨b3, off3, none⟩) n3 t3) := obj_cell hbxo rfl
    have zb : w.heap.size < wr.heap.size := heap_lt hbxo
    have c4 := cellB hB.out c4 zb3
    have zb3 : b3 < wr.heap.size := Nat.lt_of_lt_of_le zb3 hB.out.size
    have hq : ((tyE p i y.code).ss k l) = stepS p i x.1 x.2.1 x.2.2 l := by unfold tyE; simp only [hxd]
    rw [hq] at HMn
    have HSl := Lib.hid (stepS_len p i x.1 x.2.1 x.2.2 l)
    have HStp := Lib.hid (fun W (hb : Below wr.heap.size wr W) => stack_StepN cv pv bv (.slice (some ⟨b3, off3, none⟩) n3 t3) p i x.1 x.2.1 x.2.2 (.slice su l.length sc2) l W ((HP.out.below hBw).below hb) ((HT.out.1.below hBw).below hb) ((HT.out.2.below hBw).below hb) hf i1 i2 (hsl.below intR_stable hb) (by omega))
    subst e3
    obtain ⟨xo, xa, xb⟩ := x
    simp only at k0 k1 k2 HStp HMn HSl
    obtain ⟨nl, hnl⟩ : ∃ m, l.length = m := ⟨_, rfl⟩
    rw [hnl] at s0 HStp HMn hl32
    obtain ⟨SS, hSS⟩ : ∃ m, stepS p i xo xa xb l = m := ⟨_, rfl⟩
    rw [hSS] at HStp HMn HSl
    obtain ⟨SE, hSE⟩ : ∃ m, stepE p i xo xa xb l = m := ⟨_, rfl⟩
    rw [hSE] at HStp
    have e3 := e3'
    clear hB hlt hk hM hl hgs hsl hgr hld hrz hBw hx hxd hbc hcc i0 i1 i2 hbxo e3' hnl hSS hSE hq
    go_wp2_with fail
    refine wp_region_held_drew (S := (fun w' => Below wr.heap.size wr w')) (by kernel_rfl) ?_ (fun hHeld => ?_)
    · (try dsimp only); first | assumption | exact Below.alloc hHeld hHeld.size _ | exact (Below.refl _ _).drew | exact Below.drew (Below.refl _ _) | exact Below_drewN _ _ _ | exact Below.refl _ _ | (trace_state; fail)
    refine wpAnyH_take (i := 0) (oi := { dst := some 37, op := Op.load 27 (Operand.tmp 2), type := 27, pos := _, after := #[], guard := none }) (v := ?_) rfl (by kernel_rfl) (by kernel_rfl) (by kernel_rfl) (fun _ _ _ h => h) (Or.inl ⟨by rfl, ?_⟩) (by assumption) ?_
    rotate_left
    · intro wt hSw; (try dsimp only at hSw); have e0 := cellB hSw e0 zb; have e1 := cellB hSw e1 zb; have e2 := cellB hSw e2 zb; have e3 := cellB hSw e3 zb; have c4 := cellB hSw c4 zb3; have k0 := cellB hSw k0 zc; have k1 := cellB hSw k1 zc; have k2 := cellB hSw k2 zc; first | (go_simp; done) | (go_simp; with_reducible rfl) | (trace_state; fail)
    try simp only [Act.put, List.setIfInBounds_toArray, List.set_cons_zero, List.set_cons_succ]
    refine wpAnyH_take (i := 1) (oi := { dst := some 38, op := Op.move (Operand.tmp 1), type := 3, pos := _, after := #[], guard := none }) (v := ?_) rfl (by kernel_rfl) (by kernel_rfl) (by kernel_rfl) (fun _ _ _ h => h) (Or.inl ⟨by rfl, ?_⟩) (by assumption) ?_
    rotate_left
    · intro wt hSw; (try dsimp only at hSw); have e0 := cellB hSw e0 zb; have e1 := cellB hSw e1 zb; have e2 := cellB hSw e2 zb; have e3 := cellB hSw e3 zb; have c4 := cellB hSw c4 zb3; have k0 := cellB hSw k0 zc; have k1 := cellB hSw k1 zc; have k2 := cellB hSw k2 zc; first | (go_simp; done) | (go_simp; with_reducible rfl) | (trace_state; fail)
    try simp only [Act.put, List.setIfInBounds_toArray, List.set_cons_zero, List.set_cons_succ]
    refine wpAnyH_take (i := 2) (oi := { dst := some 39, op := Op.fieldAddr 27 (Operand.tmp 2) 3, type := 0, pos := _, after := #[], guard := none }) (v := ?_) rfl (by kernel_rfl) (by kernel_rfl) (by kernel_rfl) (fun _ _ _ h => h) (Or.inl ⟨by rfl, ?_⟩) (by assumption) ?_
    rotate_left
    · intro wt hSw; (try dsimp only at hSw); have e0 := cellB hSw e0 zb; have e1 := cellB hSw e1 zb; have e2 := cellB hSw e2 zb; have e3 := cellB hSw e3 zb; have c4 := cellB hSw c4 zb3; have k0 := cellB hSw k0 zc; have k1 := cellB hSw k1 zc; have k2 := cellB hSw k2 zc; first | (go_simp; done) | (go_simp; with_reducible rfl) | (trace_state; fail)
    try simp only [Act.put, List.setIfInBounds_toArray, List.set_cons_zero, List.set_cons_succ]
    refine wpAnyH_take (i := 3) (oi := { dst := some 40, op := Op.load 25 (Operand.tmp 39), type := 25, pos := _, after := #[{ on := 2, ground := Ground.data }], guard := none }) (v := ?_) rfl (by kernel_rfl) (by kernel_rfl) (by kernel_rfl) (fun _ _ _ h => h) (Or.inl ⟨by rfl, ?_⟩) (by assumption) ?_
    rotate_left
    · intro wt hSw; (try dsimp only at hSw); have e0 := cellB hSw e0 zb; have e1 := cellB hSw e1 zb; have e2 := cellB hSw e2 zb; have e3 := cellB hSw e3 zb; have c4 := cellB hSw c4 zb3; have k0 := cellB hSw k0 zc; have k1 := cellB hSw k1 zc; have k2 := cellB hSw k2 zc; first | (go_simp; done) | (go_simp; with_reducible rfl) | (trace_state; fail)
    try simp only [Act.put, List.setIfInBounds_toArray, List.set_cons_zero, List.set_cons_succ]
    refine wpAnyH_take (i := 4) (oi := { dst := some 41, op := Op.move (Operand.tmp 1), type := 3, pos := _, after := #[], guard := none }) (v := ?_) rfl (by kernel_rfl) (by kernel_rfl) (by kernel_rfl) (fun _ _ _ h => h) (Or.inl ⟨by rfl, ?_⟩) (by assumption) ?_
    rotate_left
    · intro wt hSw; (try dsimp only at hSw); have e0 := cellB hSw e0 zb; have e1 := cellB hSw e1 zb; have e2 := cellB hSw e2 zb; have e3 := cellB hSw e3 zb; have c4 := cellB hSw c4 zb3; have k0 := cellB hSw k0 zc; have k1 := cellB hSw k1 zc; have k2 := cellB hSw k2 zc; first | (go_simp; done) | (go_simp; with_reducible rfl) | (trace_state; fail)
    try simp only [Act.put, List.setIfInBounds_toArray, List.set_cons_zero, List.set_cons_succ]
    refine wpAnyH_take (i := 5) (oi := { dst := some 42, op := Op.indexAddr 25 (Operand.tmp 40) (Operand.tmp 41), type := 0, pos := _, after := #[{ on := 3, ground := Ground.data }, { on := 4, ground := Ground.data }], guard := none }) (v := ?_) rfl (by kernel_rfl) (by kernel_rfl) (by kernel_rfl) (fun _ _ _ h => h) (Or.inl ⟨by rfl, ?_⟩) (by assumption) ?_
    rotate_left
    · intro wt hSw; (try dsimp only at hSw); have e0 := cellB hSw e0 zb; have e1 := cellB hSw e1 zb; have e2 := cellB hSw e2 zb; have e3 := cellB hSw e3 zb; have c4 := cellB hSw c4 zb3; have k0 := cellB hSw k0 zc; have k1 := cellB hSw k1 zc; have k2 := cellB hSw k2 zc; first | (go_simp; done) | (go_simp; with_reducible rfl) | (trace_state; fail)
    try simp only [Act.put, List.setIfInBounds_toArray, List.set_cons_zero, List.set_cons_succ]
    refine wpAnyH_take (i := 6) (oi := { dst := some 43, op := Op.fieldAddr 41 (Operand.tmp 42) 4, type := 0, pos := _, after := #[{ on := 5, ground := Ground.data }], guard := none }) (v := ?_) rfl (by kernel_rfl) (by kernel_rfl) (by kernel_rfl) (fun _ _ _ h => h) (Or.inl ⟨by rfl, ?_⟩) (by assumption) ?_
    rotate_left
    · intro wt hSw; (try dsimp only at hSw); have e0 := cellB hSw e0 zb; have e1 := cellB hSw e1 zb; have e2 := cellB hSw e2 zb; have e3 := cellB hSw e3 zb; have c4 := cellB hSw c4 zb3; have k0 := cellB hSw k0 zc; have k1 := cellB hSw k1 zc; have k2 := cellB hSw k2 zc; first | (go_simp; done) | (go_simp; with_reducible rfl) | (trace_state; fail)
    try simp only [Act.put, List.setIfInBounds_toArray, List.set_cons_zero, List.set_cons_succ]
    refine wpAnyH_take (i := 7) (oi := { dst := some 44, op := Op.load 39 (Operand.tmp 43), type := 39, pos := _, after := #[{ on := 6, ground := Ground.data }], guard := none }) (v := ?_) rfl (by kernel_rfl) (by kernel_rfl) (by kernel_rfl) (fun _ _ _ h => h) (Or.inl ⟨by rfl, ?_⟩) (by assumption) ?_
    rotate_left
    · intro wt hSw; (try dsimp only at hSw); have e0 := cellB hSw e0 zb; have e1 := cellB hSw e1 zb; have e2 := cellB hSw e2 zb; have e3 := cellB hSw e3 zb; have c4 := cellB hSw c4 zb3; have k0 := cellB hSw k0 zc; have k1 := cellB hSw k1 zc; have k2 := cellB hSw k2 zc; first | (go_simp; done) | (go_simp; with_reducible rfl) | (trace_state; fail)
    try simp only [Act.put, List.setIfInBounds_toArray, List.set_cons_zero, List.set_cons_succ]
    refine wpAnyH_take (i := 8) (oi := { dst := some 45, op := Op.move (Operand.tmp 10), type := 3, pos := _, after := #[], guard := none }) (v := ?_) rfl (by kernel_rfl) (by kernel_rfl) (by kernel_rfl) (fun _ _ _ h => h) (Or.inl ⟨by rfl, ?_⟩) (by assumption) ?_
    rotate_left
    · intro wt hSw; (try dsimp only at hSw); have e0 := cellB hSw e0 zb; have e1 := cellB hSw e1 zb; have e2 := cellB hSw e2 zb; have e3 := cellB hSw e3 zb; have c4 := cellB hSw c4 zb3; have k0 := cellB hSw k0 zc; have k1 := cellB hSw k1 zc; have k2 := cellB hSw k2 zc; first | (go_simp; done) | (go_simp; with_reducible rfl) | (trace_state; fail)
    try simp only [Act.put, List.setIfInBounds_toArray, List.set_cons_zero, List.set_cons_succ]
    refine wpAnyH_take (i := 9) (oi := { dst := some 46, op := Op.indexAddr 39 (Operand.tmp 44) (Operand.tmp 45), type := 0, pos := _, after := #[{ on := 7, ground := Ground.data }, { on := 8, ground := Ground.data }], guard := none }) (v := ?_) rfl (by kernel_rfl) (by kernel_rfl) (by kernel_rfl) (fun _ _ _ h => h) (Or.inl ⟨by rfl, ?_⟩) (by assumption) ?_
    rotate_left
    · intro wt hSw; (try dsimp only at hSw); have e0 := cellB hSw e0 zb; have e1 := cellB hSw e1 zb; have e2 := cellB hSw e2 zb; have e3 := cellB hSw e3 zb; have c4 := cellB hSw c4 zb3; have k0 := cellB hSw k0 zc; have k1 := cellB hSw k1 zc; have k2 := cellB hSw k2 zc; first | (go_simp; done) | (go_simp; with_reducible rfl) | (trace_state; fail)
    try simp only [Act.put, List.setIfInBounds_toArray, List.set_cons_zero, List.set_cons_succ]
    refine wpAnyH_take (i := 10) (oi := { dst := some 47, op := Op.load 45 (Operand.tmp 46), type := 45, pos := _, after := #[{ on := 9, ground := Ground.data }], guard := none }) (v := ?_) rfl (by kernel_rfl) (by kernel_rfl) (by kernel_rfl) (fun _ _ _ h => h) (Or.inl ⟨by rfl, ?_⟩) (by assumption) ?_
    rotate_left
    · intro wt hSw; (try dsimp only at hSw); have e0 := cellB hSw e0 zb; have e1 := cellB hSw e1 zb; have e2 := cellB hSw e2 zb; have e3 := cellB hSw e3 zb; have c4 := cellB hSw c4 zb3; have k0 := cellB hSw k0 zc; have k1 := cellB hSw k1 zc; have k2 := cellB hSw k2 zc; first | (go_simp; done) | (go_simp; with_reducible rfl) | (trace_state; fail)
    try simp only [Act.put, List.setIfInBounds_toArray, List.set_cons_zero, List.set_cons_succ]
    refine wpAnyH_take (i := 11) (oi := { dst := some 48, op := Op.move (Operand.tmp 11), type := 36, pos := _, after := #[], guard := none }) (v := ?_) rfl (by kernel_rfl) (by kernel_rfl) (by kernel_rfl) (fun _ _ _ h => h) (Or.inl ⟨by rfl, ?_⟩) (by assumption) ?_
    rotate_left
    · intro wt hSw; (try dsimp only at hSw); have e0 := cellB hSw e0 zb; have e1 := cellB hSw e1 zb; have e2 := cellB hSw e2 zb; have e3 := cellB hSw e3 zb; have c4 := cellB hSw c4 zb3; have k0 := cellB hSw k0 zc; have k1 := cellB hSw k1 zc; have k2 := cellB hSw k2 zc; first | (go_simp; done) | (go_simp; with_reducible rfl) | (trace_state; fail)
    try simp only [Act.put, List.setIfInBounds_toArray, List.set_cons_zero, List.set_cons_succ]
    refine wpAnyH_ready (rs := [12]) (by kernel_rfl) (by simp) ?_
    refine AllReadyH.cons (o := { dst := some 49, op := Op.call { callee := Callee.value (Operand.func 11), args := #[Operand.tmp 37, Operand.tmp 38, Operand.tmp 47, Operand.tmp 48], argTypes := #[27, 3, 45, 36] }, type := 42, pos := _, after := #[{ on := 0, ground := Ground.data }, { on := 1, ground := Ground.data }, { on := 10, ground := Ground.data }, { on := 11, ground := Ground.data }], guard := none }) rfl (fun K hK => ?_) AllReadyH.nil
    go_simp
    refine (HStp.out _ hHeld).mono ?_; rintro e v1 ⟨r0, rfl, hr, hb1, _⟩; have hHeld := hHeld.trans (hb1.mono hHeld.size); have HHv := Lib.hid hHeld; obtain ⟨ra, rc, rfl⟩ := row_get hr; clear hr hb1
    go_wp2_with fail
    refine hK.out _ _ ?_ (fun hHeld => ?_)
    · (try dsimp only); first | assumption | exact Below.alloc hHeld hHeld.size _ | exact (Below.refl _ _).drew | exact Below.drew (Below.refl _ _) | exact Below_drewN _ _ _ | exact Below.refl _ _ | (trace_state; fail)
    clear hK K
    try simp only [Act.put, List.setIfInBounds_toArray, List.set_cons_zero, List.set_cons_succ]
    refine wpAnyH_take (i := 13) (oi := { dst := some 36, op := Op.move (Operand.tmp 49), type := 42, pos := _, after := #[{ on := 12, ground := Ground.data }], guard := none }) (v := ?_) rfl (by kernel_rfl) (by kernel_rfl) (by kernel_rfl) (fun _ _ _ h => h) (Or.inl ⟨by rfl, ?_⟩) (by assumption) ?_
    rotate_left
    · intro wt hSw; (try dsimp only at hSw); have e0 := cellB hSw e0 zb; have e1 := cellB hSw e1 zb; have e2 := cellB hSw e2 zb; have e3 := cellB hSw e3 zb; have c4 := cellB hSw c4 zb3; have k0 := cellB hSw k0 zc; have k1 := cellB hSw k1 zc; have k2 := cellB hSw k2 zc; first | (go_simp; done) | (go_simp; with_reducible rfl) | (trace_state; fail)
    try simp only [Act.put, List.setIfInBounds_toArray, List.set_cons_zero, List.set_cons_succ]
    refine wpAnyH_take (i := 14) (oi := { dst := some 50, op := Op.extract (Operand.tmp 36) 0, type := 36, pos := _, after := #[{ on := 13, ground := Ground.data }], guard := none }) (v := ?_) rfl (by kernel_rfl) (by kernel_rfl) (by kernel_rfl) (fun _ _ _ h => h) (Or.inl ⟨by rfl, ?_⟩) (by assumption) ?_
    rotate_left
    · intro wt hSw; (try dsimp only at hSw); have e0 := cellB hSw e0 zb; have e1 := cellB hSw e1 zb; have e2 := cellB hSw e2 zb; have e3 := cellB hSw e3 zb; have c4 := cellB hSw c4 zb3; have k0 := cellB hSw k0 zc; have k1 := cellB hSw k1 zc; have k2 := cellB hSw k2 zc; first | (go_simp; done) | (go_simp; with_reducible rfl) | (trace_state; fail)
    try simp only [Act.put, List.setIfInBounds_toArray, List.set_cons_zero, List.set_cons_succ]
    refine wpAnyH_take (i := 15) (oi := { dst := some 51, op := Op.extract (Operand.tmp 36) 1, type := 32, pos := _, after := #[{ on := 13, ground := Ground.data }, { on := 16, ground := Ground.gcOnly Departure.lateStores }], guard := none }) (v := ?_) rfl (by kernel_rfl) (by kernel_rfl) (by kernel_rfl) (fun _ _ _ h => h) (Or.inl ⟨by rfl, ?_⟩) (by assumption) ?_
    rotate_left
    · intro wt hSw; (try dsimp only at hSw); have e0 := cellB hSw e0 zb; have e1 := cellB hSw e1 zb; have e2 := cellB hSw e2 zb; have e3 := cellB hSw e3 zb; have c4 := cellB hSw c4 zb3; have k0 := cellB hSw k0 zc; have k1 := cellB hSw k1 zc; have k2 := cellB hSw k2 zc; first | (go_simp; done) | (go_simp; with_reducible rfl) | (trace_state; fail)
    try simp only [Act.put, List.setIfInBounds_toArray, List.set_cons_zero, List.set_cons_succ]
    refine wpAnyH_take (i := 16) (oi := { dst := some 12, op := Op.assign (Operand.tmp 50), type := 36, pos := _, after := #[{ on := 14, ground := Ground.data }, { on := 12, ground := Ground.chain }, { on := 0, ground := Ground.phase }, { on := 1, ground := Ground.phase }, { on := 2, ground := Ground.phase }, { on := 3, ground := Ground.phase }, { on := 4, ground := Ground.phase }, { on := 5, ground := Ground.phase }, { on := 6, ground := Ground.phase }, { on := 7, ground := Ground.phase }, { on := 8, ground := Ground.phase }, { on := 9, ground := Ground.phase }, { on := 10, ground := Ground.phase }, { on := 11, ground := Ground.phase }, { on := 12, ground := Ground.phase }, { on := 13, ground := Ground.phase }, { on := 14, ground := Ground.phase }, { on := 15, ground := Ground.textOnly Departure.lateStores }], guard := none }) (v := ?_) rfl (by kernel_rfl) (by kernel_rfl) (by kernel_rfl) (fun _ _ _ h => h) (Or.inl ⟨by rfl, ?_⟩) (by assumption) ?_
    rotate_left
    · intro wt hSw; (try dsimp only at hSw); have e0 := cellB hSw e0 zb; have e1 := cellB hSw e1 zb; have e2 := cellB hSw e2 zb; have e3 := cellB hSw e3 zb; have c4 := cellB hSw c4 zb3; have k0 := cellB hSw k0 zc; have k1 := cellB hSw k1 zc; have k2 := cellB hSw k2 zc; first | (go_simp; done) | (go_simp; with_reducible rfl) | (trace_state; fail)
    try simp only [Act.put, List.setIfInBounds_toArray, List.set_cons_zero, List.set_cons_succ]
    refine wpAnyH_take (i := 17) (oi := { dst := some 13, op := Op.assign (Operand.tmp 51), type := 32, pos := _, after := #[{ on := 15, ground := Ground.data }, { on := 16, ground := Ground.chain }, { on := 0, ground := Ground.phase }, { on := 1, ground := Ground.phase }, { on := 2, ground := Ground.phase }, { on := 3, ground := Ground.phase }, { on := 4, ground := Ground.phase }, { on := 5, ground := Ground.phase }, { on := 6, ground := Ground.phase }, { on := 7, ground := Ground.phase }, { on := 8, ground := Ground.phase }, { on := 9, ground := Ground.phase }, { on := 10, ground := Ground.phase }, { on := 11, ground := Ground.phase }, { on := 12, ground := Ground.phase }, { on := 13, ground := Ground.phase }, { on := 14, ground := Ground.phase }, { on := 15, ground := Ground.phase }, { on := 16, ground := Ground.phase }], guard := none }) (v := ?_) rfl (by kernel_rfl) (by kernel_rfl) (by kernel_rfl) (fun _ _ _ h => h) (Or.inl ⟨by rfl, ?_⟩) (by assumption) ?_
    rotate_left
    · intro wt hSw; (try dsimp only at hSw); have e0 := cellB hSw e0 zb; have e1 := cellB hSw e1 zb; have e2 := cellB hSw e2 zb; have e3 := cellB hSw e3 zb; have c4 := cellB hSw c4 zb3; have k0 := cellB hSw k0 zc; have k1 := cellB hSw k1 zc; have k2 := cellB hSw k2 zc; first | (go_simp; done) | (go_simp; with_reducible rfl) | (trace_state; fail)
    try simp only [Act.put, List.setIfInBounds_toArray, List.set_cons_zero, List.set_cons_succ]
    refine wpAnyH_done (by kernel_rfl) ?_ _
    have HB2 := Lib.hid (HB.out.trans (HHv.out.mono HB.out.size))
    obtain ⟨ns, hns⟩ : ∃ m, SS.length = m := ⟨_, rfl⟩
    rw [hns] at HMn HSl ⊢
    clear hns e0 e1 e2 e3 c4 k0 k1 k2 HStp
    have hm1 : (0 : Int) ≤ (M : Int) := by omega
    go_wp2_with fail
    go_roundw
    case rel => exact ⟨k + 1, by have := HK.out; omega, by simp, by rw [HMn.out]; first | (simp; done) | (simp; omega) | (trace_state; fail), HB2⟩
    case measure => have := HK.out; first | (simp [intOf]; done) | (simp [intOf]; omega)
end Go.Proofs.YtnkmnmlhjanplaaDoor

/- Layer 20: the walk of TypingSame. -/
namespace Go.Proofs.YtnkmnmlhjanplaaDoor
open Go.RowKit
set_option linter.unusedSimpArgs false
set_option linter.unusedVariables false
theorem beh_nil (x : Ins) (k : Nat) : (behL x k).length = 0 ↔ x.1 = 34 := by
  unfold behL two
  by_cases h30 : x.1 = 30
  · rw [if_pos h30]; simp; omega
  · rw [if_neg h30]
    by_cases h31 : x.1 = 31
    · rw [if_pos h31]
      constructor
      · intro h
        have h := List.length_eq_zero_iff.1 h
        split at h <;> (split at h <;> cases h)
      · intro h; omega
    · rw [if_neg h31]
      by_cases h32 : x.1 = 32
      · rw [if_pos h32]; simp; omega
      · rw [if_neg h32]
        by_cases h34 : x.1 = 34
        · rw [if_pos h34]; simp [h34]
        · rw [if_neg h34]; simp [h34]
set_option maxRecDepth 100000 in
set_option maxHeartbeats 8000000 in
theorem typingSame_walk (cv pv bv uv : Value) (p : Pr) (u : Int) (w : World) (hP : PrAt w cv pv bv uv p) (hT : TabR w) (hBt : BTab w) :
    Calls Tryd.prog 4 #[.agg #[cv, pv, bv, uv], .int .i64 u] w fun e w' => e = .returned (.bool true) ∧ Below w.heap.size w w' := by
  have HA := Lib.hid law20_awake
  obtain ⟨W1, hW1⟩ : ∃ W1, W1 = w.alloc (.cells #[cv, pv, bv, uv] 27) := ⟨_, rfl⟩
  have hb1 : Below w.heap.size w W1 := by rw [hW1]; exact (Below.refl _ _).alloc (Nat.le_refl _) _
  have hbx : W1.heap[w.heap.size]? = some (.cells #[cv, pv, bv, uv] 27 (0, 0)) := by rw [hW1]; exact get_last rfl
  have HW1 := Lib.hid hW1
  have Hb1 := Lib.hid hb1
  have Hbx := Lib.hid hbx
  have HFw := Lib.hid (law16_Few cv pv bv uv p W1 (hP.below hb1))
  cases hf : fewP p
  case false =>
    rw [hf] at HFw
    clear hP hT hBt hW1 hb1 hbx hf
    go_enter Tryd.func4, Tryd.ntmps4
    go_wp2_with fail
    rw [← HW1.out]
    refine HFw.out.mono ?_; rintro e w1 ⟨rfl, hb2⟩
    have HB := Lib.hid (Hb1.out.trans (hb2.mono Hb1.out.size))
    clear hb2
    go_wp2_with fail
    refine (HA.out _).mono ?_; rintro e w2 ⟨rfl, hb3⟩
    have HB2 := Lib.hid (HB.out.trans (hb3.mono HB.out.size))
    clear hb3
    go_wp2_with fail
    go_ret
    exact ⟨rfl, HB2.out⟩
  rw [hf] at HFw
  have HEn := Lib.hid (fun W (hb : Below w.heap.size w W) => typing_Entries cv pv bv uv p u W (hP.below hb) (hT.below hb) (hBt.below hb) hf)
  have HHi := Lib.hid (fun W (hb : Below w.heap.size w W) => typing_Highest cv pv bv uv p u W (hP.below hb) (hT.below hb) (hBt.below hb) hf)
  have HP := Lib.hid hP
  have HT := Lib.hid (And.intro hT hBt)
  have hbad : (∃ r, (chkP p u).2 = 0 ∧ TY.entF (tyE p u (unAt p u).code) ((unAt p u).code.length + 1) (TY.start (unAt p u).code.length) = some r ∧ r.2.1 = 0) ∨
      (∀ W, Below w.heap.size w W → Calls Tryd.prog 7 #[.agg #[cv, pv, bv, uv], .int .i64 u] W (fun e w' => (∃ z1 z2 : Int, z2 ≠ 0 ∧ e = .returned (.tuple #[.slice none 0 0, .slice none 0 0, .int .i64 z1, .int .i64 z2])) ∧ Below W.heap.size W w')) ∧
      (∀ W, Below w.heap.size w W → Calls Tryd.prog 10 #[.agg #[cv, pv, bv, uv], .int .i64 u] W (fun e w' => e = .returned (.int .i64 0) ∧ Below W.heap.size W w')) := by
    by_cases hc : (chkP p u).2 = 0
    · by_cases hg : ∃ r, TY.entF (tyE p u (unAt p u).code) ((unAt p u).code.length + 1) (TY.start (unAt p u).code.length) = some r ∧ r.2.1 = 0
      · obtain ⟨r, h1, h2⟩ := hg
        exact Or.inl ⟨r, hc, h1, h2⟩
      · refine Or.inr ⟨fun W hb => (HEn.out W hb).mono ?_, fun W hb => (HHi.out W hb).mono ?_⟩
        · rintro e w' ⟨hb2, ⟨h, _⟩ | ⟨_, r, hr, ⟨h0, rfl⟩ | ⟨h0, _⟩⟩⟩
          · exact absurd hc h
          · exact ⟨⟨_, _, h0, rfl⟩, hb2⟩
          · exact absurd ⟨r, hr, h0⟩ hg
        · rintro e w' ⟨hb2, ⟨h, _⟩ | ⟨_, r, hr, ⟨h0, rfl⟩ | ⟨h0, _⟩⟩⟩
          · exact absurd hc h
          · exact ⟨rfl, hb2⟩
          · exact absurd ⟨r, hr, h0⟩ hg
    · refine Or.inr ⟨fun W hb => (HEn.out W hb).mono ?_, fun W hb => (HHi.out W hb).mono ?_⟩
      · rintro e w' ⟨hb2, ⟨h, rfl⟩ | ⟨h, _⟩⟩
        · exact ⟨⟨_, _, h, rfl⟩, hb2⟩
        · exact absurd h hc
      · rintro e w' ⟨hb2, ⟨h, rfl⟩ | ⟨h, _⟩⟩
        · exact ⟨rfl, hb2⟩
        · exact absurd h hc
  rcases hbad with ⟨r, hc, hr, hr0⟩ | ⟨hE, hH⟩
  case inr =>
    have HEb := Lib.hid hE
    have HHb := Lib.hid hH
    clear hP hT hBt hW1 hb1 hbx hf hE hH HEn HHi
    go_enter Tryd.func4, Tryd.ntmps4
    go_wp2_with fail
    rw [← HW1.out]
    refine HFw.out.mono ?_; rintro e w1 ⟨rfl, hb2⟩
    have HB := Lib.hid (Hb1.out.trans (hb2.mono Hb1.out.size))
    have hbx1 := obj_below Hbx.out hb2 (heap_lt Hbx.out)
    have e0 : w1.cell? ⟨w.heap.size, 0, none⟩ = some cv := obj_cell hbx1 rfl
    have e1 : w1.cell? ⟨w.heap.size, 1, none⟩ = some pv := obj_cell hbx1 rfl
    have e2 : w1.cell? ⟨w.heap.size, 2, none⟩ = some bv := obj_cell hbx1 rfl
    have e3 : w1.cell? ⟨w.heap.size, 3, none⟩ = some uv := obj_cell hbx1 rfl
    have Hbx1 := Lib.hid hbx1
    clear hb2 hbx1
    go_wp2_with fail
    refine (HEb.out _ HB.out).mono ?_; rintro e w2 ⟨⟨z1, z2, hz2, rfl⟩, hb3⟩
    have HB2 := Lib.hid (HB.out.trans (hb3.mono HB.out.size))
    have hbx2 := obj_below Hbx1.out hb3 (heap_lt Hbx1.out)
    have e0 : w2.cell? ⟨w.heap.size, 0, none⟩ = some cv := obj_cell hbx2 rfl
    have e1 : w2.cell? ⟨w.heap.size, 1, none⟩ = some pv := obj_cell hbx2 rfl
    have e2 : w2.cell? ⟨w.heap.size, 2, none⟩ = some bv := obj_cell hbx2 rfl
    have e3 : w2.cell? ⟨w.heap.size, 3, none⟩ = some uv := obj_cell hbx2 rfl
    have qz : (z2 != 0) = true := by simpa using hz2
    clear hb3 hbx2 hz2
    go_wp2_with fail
    refine (HHb.out _ HB2.out).mono ?_; rintro e w3 ⟨rfl, hb4⟩
    have HB3 := Lib.hid (HB2.out.trans (hb4.mono HB2.out.size))
    clear hb4 e0 e1 e2 e3
    go_wp2_with fail
    refine (HA.out _).mono ?_; rintro e w4 ⟨rfl, hb5⟩
    have HB4 := Lib.hid (HB3.out.trans (hb5.mono HB3.out.size))
    clear hb5
    go_wp2_with fail
    go_ret
    exact ⟨rfl, HB4.out⟩
  obtain ⟨hu, hOk⟩ := chk_ok hc
  obtain ⟨i, rfl⟩ := Int.eq_ofNat_of_zero_le hu.1
  obtain ⟨y, hy⟩ := get_some (L := p.units) (n := i) (by omega)
  have huy : unAt p i = y := by unfold unAt; simp [List.getD, hy]
  have hy300 := (fewU_is ((fewP_is hf).2.2.2 y (List.mem_of_getElem? hy))).2.2.2
  obtain ⟨s3, t3, rfl⟩ := row_get hP.us
  obtain ⟨b3, off3, rfl, hbw3, hc3⟩ := unit_at hP.us (k := i) (lt_of_get hy)
  obtain ⟨u1, u3, u4, c0, c1, c2, c3, c4, hU⟩ := hc3 i y hy
  have hcode := hU.cs
  obtain ⟨sc, tc, rfl⟩ := row_get hcode
  rw [huy] at hr hOk
  obtain ⟨z0, z1, s⟩ := r
  simp only at hr0
  subst hr0
  obtain ⟨hfit, hcl⟩ := ent_good (E := tyE p i y.code) hr rfl
  have HEg := Lib.hid (fun W (hb : Below w.heap.size w W) => (HEn.out W hb).mono (R' := fun e w' => (∃ vS vR, e = .returned (.tuple #[vS, vR, .int .i64 0, .int .i64 0]) ∧ RowR 1 gridR w' vS s.stacks ∧ RowR 1 boolR w' vR s.reached ∧ ∀ st ∈ s.stacks, st.length ≤ 32) ∧ Below W.heap.size W w') (by
    rintro e w' ⟨hb2, ⟨h, _⟩ | ⟨_, r, hr2, h⟩⟩
    · exact absurd hc h
    · rw [huy, hr] at hr2
      cases hr2
      rcases h with ⟨h0, _⟩ | ⟨_, vS, vR, h1, h2, h3, h4⟩
      · exact absurd rfl h0
      · exact ⟨⟨vS, vR, h1, h2, h3, h4⟩, hb2⟩))
  have HHg := Lib.hid (fun W (hb : Below w.heap.size w W) => (HHi.out W hb).mono (R' := fun e w' => e = .returned (.int .i64 (highF (tyE p i y.code) s s.stacks.length : Int)) ∧ Below W.heap.size W w') (by
    rintro e w' ⟨hb2, ⟨h, _⟩ | ⟨_, r, hr2, h⟩⟩
    · exact absurd hc h
    · rw [huy, hr] at hr2
      cases hr2
      rcases h with ⟨h0, _⟩ | ⟨_, h1⟩
      · exact absurd rfl h0
      · exact ⟨by rw [h1, huy], hb2⟩))
  obtain ⟨n, hn⟩ : ∃ n, y.code.length = n := ⟨_, rfl⟩
  have hsn : s.stacks.length = n := hfit.ls.trans hn
  have hrn : s.reached.length = n := hfit.lr.trans hn
  have HN := Lib.hid (And.intro hn (And.intro hsn hrn))
  have HCl := Lib.hid hcl
  have HCo := Lib.hid hcode
  have HOk := Lib.hid hOk
  have HPl := Lib.hid hP
  have HBw3 := Lib.hid hbw3
  have HC4 := Lib.hid c4
  have q1 : ((i : Int) < (p.units.length : Int)) = True := eq_true hu.2
  have q1' : (i < p.units.length) = True := eq_true (by omega)
  obtain ⟨H, hH⟩ : ∃ H, highF (tyE p i y.code) s s.stacks.length = H := ⟨_, rfl⟩
  have HHe := Lib.hid (show ∀ k, k < n → s.reached.getD k false = true → (s.stacks.getD k []).length ≤ H ∧ ((tyE p i y.code).ss k (s.stacks.getD k [])).length ≤ H from fun k hk hr => by rw [← hH]; exact highF_le _ _ _ k (by rw [hsn]; exact hk) hr)
  rw [hH] at HHg
  rw [hn] at hy300 HCo HC4
  obtain ⟨n3, hn3⟩ : ∃ n, p.units.length = n := ⟨_, rfl⟩
  rw [hn3] at q1 q1' HPl HEg HHg HFw HW1 Hbx ⊢
  clear hP hT hBt hW1 hb1 hbx hc hr hu hOk hy huy hbw3 hc3 c0 c1 c2 c3 c4 hU hcode hfit hcl hn hsn hrn hn3 hH HEn HHi HP
  go_enter Tryd.func4, Tryd.ntmps4
  go_wp2_with fail
  rw [← HW1.out]
  refine HFw.out.mono ?_; rintro e w1 ⟨rfl, hb2⟩
  have HB := Lib.hid (Hb1.out.trans (hb2.mono Hb1.out.size))
  have hbx1 := obj_below Hbx.out hb2 (heap_lt Hbx.out)
  have e0 : w1.cell? ⟨w.heap.size, 0, none⟩ = some cv := obj_cell hbx1 rfl
  have e1 : w1.cell? ⟨w.heap.size, 1, none⟩ = some pv := obj_cell hbx1 rfl
  have e2 : w1.cell? ⟨w.heap.size, 2, none⟩ = some bv := obj_cell hbx1 rfl
  have e3 : w1.cell? ⟨w.heap.size, 3, none⟩ = some (.slice (some ⟨b3, off3, none⟩) n3 t3) := obj_cell hbx1 rfl
  have Hbx1 := Lib.hid hbx1
  clear hb2 hbx1
  go_wp2_with fail
  refine (HEg.out _ HB.out).mono ?_; rintro e w2 ⟨⟨vS, vR, rfl, hS, hR, hL⟩, hb3⟩
  have HB2 := Lib.hid (HB.out.trans (hb3.mono HB.out.size))
  have hbx2 := obj_below Hbx1.out hb3 (heap_lt Hbx1.out)
  have e0 : w2.cell? ⟨w.heap.size, 0, none⟩ = some cv := obj_cell hbx2 rfl
  have e1 : w2.cell? ⟨w.heap.size, 1, none⟩ = some pv := obj_cell hbx2 rfl
  have e2 : w2.cell? ⟨w.heap.size, 2, none⟩ = some bv := obj_cell hbx2 rfl
  have e3 : w2.cell? ⟨w.heap.size, 3, none⟩ = some (.slice (some ⟨b3, off3, none⟩) n3 t3) := obj_cell hbx2 rfl
  have Hbx2 := Lib.hid hbx2
  have HL := Lib.hid hL
  obtain ⟨sa, sb, rfl⟩ := row_get hS
  obtain ⟨ra, rb, rfl⟩ := row_get hR
  have HS := Lib.hid hS
  have HR := Lib.hid hR
  rw [HN.out.2.1] at HS ⊢
  rw [HN.out.2.2] at HR ⊢
  clear hb3 hbx2 hS hR hL
  go_wp2_with fail
  refine (HHg.out _ HB2.out).mono ?_; rintro e w3 ⟨rfl, hb4⟩
  have HB3 := Lib.hid (HB2.out.trans (hb4.mono HB2.out.size))
  have HB23 := Lib.hid hb4
  have hbx3 := obj_below Hbx2.out hb4 (heap_lt Hbx2.out)
  have e3 : w3.cell? ⟨w.heap.size, 3, none⟩ = some (.slice (some ⟨b3, off3, none⟩) n3 t3) := obj_cell hbx3 rfl
  have c4 := (HB3.out.cell (p := ⟨b3, off3 + i * 5 + 4, none⟩) HBw3.out).trans HC4.out
  have Hbx3 := Lib.hid hbx3
  have q0 : ((n : Int) != (n : Int)) = false := by simp
  clear hb4 hbx3 e0 e1 e2
  go_wp2_with fail
  go_loopw [11, 12, 13, 14, 15] (fun jj _ _ _ _ wr => ∃ k : Nat, k ≤ n ∧ jj = .int .i64 k ∧ Hid (Below w3.heap.size w3 wr)) (fun jj _ _ _ _ _ => n - (intOf jj).toNat)
  case atStart => exact ⟨0, Nat.zero_le _, rfl, Lib.hid (Below.refl _ _)⟩
  case round =>
    obtain ⟨k, hk, rfl, hB⟩ := hrel
    rename World => wr
    have HBr := hB
    have hBw := HB3.out.trans (hB.out.mono HB3.out.size)
    have hB2r := HB23.out.trans (hB.out.mono HB23.out.size)
    have HBw := Lib.hid hBw
    have HB2r := Lib.hid hB2r
    by_cases hlt : k < n
    case neg =>
      obtain rfl : n = k := by omega
      have q2 : ((n : Int) < (n : Int)) = False := eq_false (by omega)
      have q2' : (n < n) = False := eq_false (by omega)
      clear hB hlt hk hBw hB2r e3 c4
      go_wp2_with fail
      refine (HA.out _).mono ?_; rintro e w4 ⟨rfl, hb5⟩
      have HB4 := Lib.hid (HBw.out.trans (hb5.mono HBw.out.size))
      clear hb5
      go_wp2_with fail
      go_ret
      exact ⟨rfl, HB4.out⟩
    have q2 : ((k : Int) < (n : Int)) = True := eq_true (by omega)
    have q2' : (k < n) = True := eq_true hlt
    have hk62 : k ≤ 9223372036854775806 := by omega
    have HK := Lib.hid hlt
    obtain ⟨gr, orr, e5, hgr, _, _, r0⟩ := bools_at HR.out (k := k) (by rw [HN.out.2.2]; exact hlt)
    subst e5
    have HReach := Lib.hid (show ∀ W, Below w2.heap.size w2 W → ∀ j, j < n → W.cell? ⟨gr, orr + j, none⟩ = some (.bool (s.reached.getD j false)) from fun W hb j hj => cellB hb (r0 j (by rw [HN.out.2.2]; exact hj)) hgr)
    have r0 := HReach.out wr hB2r k hlt
    obtain ⟨rz, hrz⟩ : ∃ b, s.reached.getD k false = b := ⟨_, rfl⟩
    rw [hrz] at r0
    cases rz
    case false =>
      clear hB hlt hk hgr hrz hBw hB2r e3 c4
      go_wp2_with fail
      go_roundw
      case rel => exact ⟨k + 1, by have := HK.out; omega, by simp, HBr⟩
      case measure => have := HK.out; first | (simp [intOf]; done) | (simp [intOf]; omega)
    obtain ⟨l, hl⟩ := get_some (L := s.stacks) (n := k) (by rw [HN.out.2.1]; exact hlt)
    obtain ⟨gs, os, su, sc2, e6, hgs, _, _, s0, hsl⟩ := grid_at HS.out hl
    subst e6
    have s0 := cellB hB2r s0 hgs
    have zs : gs < wr.heap.size := Nat.lt_of_lt_of_le hgs hB2r.size
    have hsl := hsl.below intR_stable hB2r
    have hl32 := HL.out l (List.mem_of_getElem? hl)
    have hld : s.stacks.getD k [] = l := by simp [List.getD, hl]
    obtain ⟨hse, hbeh⟩ := HCl.out k hrz
    have hhe := HHe.out k hlt hrz
    rw [hld] at hse hbeh hhe
    obtain ⟨x, hx⟩ := get_some (L := y.code) (n := k) (by rw [HN.out.1]; exact hlt)
    have hxd : y.code.getD k (0, 0, 0) = x := by simp [List.getD, hx]
    obtain ⟨hA1, hA2⟩ := HOk.out k x hx
    obtain ⟨bc, oc, e7, hbc, hcc⟩ := bh_at HCo.out (k := k) (by rw [HN.out.1]; exact hlt)
    subst e7
    obtain ⟨k0, k1, k2, i0, i1, i2⟩ := hcc k x hx
    have k0 := (hBw.cell (p := ⟨bc, oc + k * 3, none⟩) hbc).trans k0
    have k1 := (hBw.cell (p := ⟨bc, oc + k * 3 + 1, none⟩) hbc).trans k1
    have k2 := (hBw.cell (p := ⟨bc, oc + k * 3 + 2, none⟩) hbc).trans k2
    have zc : bc < wr.heap.size := Nat.lt_of_lt_of_le hbc hBw.size
    have hbxo := obj_below Hbx3.out hB.out (heap_lt Hbx3.out)
    have e0 : wr.cell? ⟨w.heap.size, 0, none⟩ = some cv := obj_cell hbxo rfl
    have e1 : wr.cell? ⟨w.heap.size, 1, none⟩ = some pv := obj_cell hbxo rfl
    have e2 : wr.cell? ⟨w.heap.size, 2, none⟩ = some bv := obj_cell hbxo rfl
    have e3' : wr.cell? ⟨w.heap.size, 3, none⟩ = some (.slice (some ⟨b3, off3, none⟩) n3 t3) := obj_cell hbxo rfl
    have zb : w.heap.size < wr.heap.size := heap_lt hbxo
    have hEe : (tyE p i y.code).se k l = stepE p i x.1 x.2.1 x.2.2 l := by unfold tyE; simp only [hxd]
    have hEs : (tyE p i y.code).ss k l = stepS p i x.1 x.2.1 x.2.2 l := by unfold tyE; simp only [hxd]
    have hEb : (tyE p i y.code).beh k = behL x k := by unfold tyE; simp only [hxd]
    have hEn : (tyE p i y.code).n = n := HN.out.1
    rw [hEe] at hse
    rw [hEb, hEs, hEn] at hbeh
    rw [hEs] at hhe
    have HSl := Lib.hid (stepS_len p i x.1 x.2.1 x.2.2 l)
    have HStp := Lib.hid (fun W (hb : Below wr.heap.size wr W) => stack_Step cv pv bv (.slice (some ⟨b3, off3, none⟩) n3 t3) p i x.1 x.2.1 x.2.2 (.slice su l.length sc2) l W ((HPl.out.below hBw).below hb) ((HT.out.1.below hBw).below hb) ((HT.out.2.below hBw).below hb) hf i1 i2 (hsl.below intR_stable hb) (by omega))
    have HBh := Lib.hid (fun W (hb : Below wr.heap.size wr W) => typing_Behind _ y.code k x W ((HCo.out.below insR_stable hBw).below insR_stable hb) hx (by rw [HN.out.1]; exact hy300) hA1 hA2)
    have HBn := Lib.hid (beh_nil x k)
    have HBl := Lib.hid (behL_len (x := x) k hA1.2)
    obtain ⟨xo, xa, xb⟩ := x
    simp only at k0 k1 k2 HStp HSl hse hbeh hhe HBn HBh
    rw [hse] at HStp
    obtain ⟨SS, hSS⟩ : ∃ m, stepS p i xo xa xb l = m := ⟨_, rfl⟩
    rw [hSS] at HStp HSl hbeh hhe
    obtain ⟨BL, hBL⟩ : ∃ m, behL (xo, xa, xb) k = m := ⟨_, rfl⟩
    rw [hBL] at HBh HBn HBl hbeh
    have HBeh := Lib.hid hbeh
    obtain ⟨nl, hnl⟩ : ∃ m, l.length = m := ⟨_, rfl⟩
    rw [hnl] at s0 HStp hl32 hhe
    have h1 : ((H : Int) < (nl : Int)) = False := eq_false (by omega)
    have h2 : ((H : Int) < (SS.length : Int)) = False := eq_false (by omega)
    have e3w := e3
    have e3 := e3'
    clear hB hlt hk hl hgs hsl hgr hld hrz hBw hB2r hx hxd hbc hcc i0 i1 i2 hbxo e3' hnl hSS hBL hse hbeh hhe hA1 hA2 hEe hEs hEb hEn e3w c4
    go_wp2_with fail
    refine wp_region_held_drew (S := (fun w' => Below wr.heap.size wr w')) (by kernel_rfl) ?_ (fun hHeld => ?_)
    · (try dsimp only); first | assumption | exact Below.alloc hHeld hHeld.size _ | exact (Below.refl _ _).drew | exact Below.drew (Below.refl _ _) | exact Below_drewN _ _ _ | exact Below.refl _ _ | (trace_state; fail)
    refine wpAnyH_take (i := 0) (oi := { dst := some 78, op := Op.load 27 (Operand.tmp 2), type := 27, pos := _, after := #[], guard := none }) (v := ?_) rfl (by kernel_rfl) (by kernel_rfl) (by kernel_rfl) (fun _ _ _ h => h) (Or.inl ⟨by rfl, ?_⟩) (by assumption) ?_
    rotate_left
    · intro wt hSw; (try dsimp only at hSw); have e0 := cellB hSw e0 zb; have e1 := cellB hSw e1 zb; have e2 := cellB hSw e2 zb; have e3 := cellB hSw e3 zb; have k0 := cellB hSw k0 zc; have k1 := cellB hSw k1 zc; have k2 := cellB hSw k2 zc; have s0 := cellB hSw s0 zs; first | (go_simp; done) | (go_simp; with_reducible rfl) | (trace_state; fail)
    try simp only [Act.put, List.setIfInBounds_toArray, List.set_cons_zero, List.set_cons_succ]
    refine wpAnyH_take (i := 1) (oi := { dst := some 79, op := Op.move (Operand.tmp 1), type := 3, pos := _, after := #[], guard := none }) (v := ?_) rfl (by kernel_rfl) (by kernel_rfl) (by kernel_rfl) (fun _ _ _ h => h) (Or.inl ⟨by rfl, ?_⟩) (by assumption) ?_
    rotate_left
    · intro wt hSw; (try dsimp only at hSw); have e0 := cellB hSw e0 zb; have e1 := cellB hSw e1 zb; have e2 := cellB hSw e2 zb; have e3 := cellB hSw e3 zb; have k0 := cellB hSw k0 zc; have k1 := cellB hSw k1 zc; have k2 := cellB hSw k2 zc; have s0 := cellB hSw s0 zs; first | (go_simp; done) | (go_simp; with_reducible rfl) | (trace_state; fail)
    try simp only [Act.put, List.setIfInBounds_toArray, List.set_cons_zero, List.set_cons_succ]
    refine wpAnyH_take (i := 2) (oi := { dst := some 80, op := Op.move (Operand.tmp 10), type := 39, pos := _, after := #[], guard := none }) (v := ?_) rfl (by kernel_rfl) (by kernel_rfl) (by kernel_rfl) (fun _ _ _ h => h) (Or.inl ⟨by rfl, ?_⟩) (by assumption) ?_
    rotate_left
    · intro wt hSw; (try dsimp only at hSw); have e0 := cellB hSw e0 zb; have e1 := cellB hSw e1 zb; have e2 := cellB hSw e2 zb; have e3 := cellB hSw e3 zb; have k0 := cellB hSw k0 zc; have k1 := cellB hSw k1 zc; have k2 := cellB hSw k2 zc; have s0 := cellB hSw s0 zs; first | (go_simp; done) | (go_simp; with_reducible rfl) | (trace_state; fail)
    try simp only [Act.put, List.setIfInBounds_toArray, List.set_cons_zero, List.set_cons_succ]
    refine wpAnyH_take (i := 3) (oi := { dst := some 81, op := Op.move (Operand.tmp 11), type := 3, pos := _, after := #[], guard := none }) (v := ?_) rfl (by kernel_rfl) (by kernel_rfl) (by kernel_rfl) (fun _ _ _ h => h) (Or.inl ⟨by rfl, ?_⟩) (by assumption) ?_
    rotate_left
    · intro wt hSw; (try dsimp only at hSw); have e0 := cellB hSw e0 zb; have e1 := cellB hSw e1 zb; have e2 := cellB hSw e2 zb; have e3 := cellB hSw e3 zb; have k0 := cellB hSw k0 zc; have k1 := cellB hSw k1 zc; have k2 := cellB hSw k2 zc; have s0 := cellB hSw s0 zs; first | (go_simp; done) | (go_simp; with_reducible rfl) | (trace_state; fail)
    try simp only [Act.put, List.setIfInBounds_toArray, List.set_cons_zero, List.set_cons_succ]
    refine wpAnyH_take (i := 4) (oi := { dst := some 82, op := Op.indexAddr 39 (Operand.tmp 80) (Operand.tmp 81), type := 0, pos := _, after := #[{ on := 2, ground := Ground.data }, { on := 3, ground := Ground.data }], guard := none }) (v := ?_) rfl (by kernel_rfl) (by kernel_rfl) (by kernel_rfl) (fun _ _ _ h => h) (Or.inl ⟨by rfl, ?_⟩) (by assumption) ?_
    rotate_left
    · intro wt hSw; (try dsimp only at hSw); have e0 := cellB hSw e0 zb; have e1 := cellB hSw e1 zb; have e2 := cellB hSw e2 zb; have e3 := cellB hSw e3 zb; have k0 := cellB hSw k0 zc; have k1 := cellB hSw k1 zc; have k2 := cellB hSw k2 zc; have s0 := cellB hSw s0 zs; first | (go_simp; done) | (go_simp; with_reducible rfl) | (trace_state; fail)
    try simp only [Act.put, List.setIfInBounds_toArray, List.set_cons_zero, List.set_cons_succ]
    refine wpAnyH_take (i := 5) (oi := { dst := some 83, op := Op.load 45 (Operand.tmp 82), type := 45, pos := _, after := #[{ on := 4, ground := Ground.data }], guard := none }) (v := ?_) rfl (by kernel_rfl) (by kernel_rfl) (by kernel_rfl) (fun _ _ _ h => h) (Or.inl ⟨by rfl, ?_⟩) (by assumption) ?_
    rotate_left
    · intro wt hSw; (try dsimp only at hSw); have e0 := cellB hSw e0 zb; have e1 := cellB hSw e1 zb; have e2 := cellB hSw e2 zb; have e3 := cellB hSw e3 zb; have k0 := cellB hSw k0 zc; have k1 := cellB hSw k1 zc; have k2 := cellB hSw k2 zc; have s0 := cellB hSw s0 zs; first | (go_simp; done) | (go_simp; with_reducible rfl) | (trace_state; fail)
    try simp only [Act.put, List.setIfInBounds_toArray, List.set_cons_zero, List.set_cons_succ]
    refine wpAnyH_take (i := 6) (oi := { dst := some 84, op := Op.move (Operand.tmp 5), type := 30, pos := _, after := #[], guard := none }) (v := ?_) rfl (by kernel_rfl) (by kernel_rfl) (by kernel_rfl) (fun _ _ _ h => h) (Or.inl ⟨by rfl, ?_⟩) (by assumption) ?_
    rotate_left
    · intro wt hSw; (try dsimp only at hSw); have e0 := cellB hSw e0 zb; have e1 := cellB hSw e1 zb; have e2 := cellB hSw e2 zb; have e3 := cellB hSw e3 zb; have k0 := cellB hSw k0 zc; have k1 := cellB hSw k1 zc; have k2 := cellB hSw k2 zc; have s0 := cellB hSw s0 zs; first | (go_simp; done) | (go_simp; with_reducible rfl) | (trace_state; fail)
    try simp only [Act.put, List.setIfInBounds_toArray, List.set_cons_zero, List.set_cons_succ]
    refine wpAnyH_take (i := 7) (oi := { dst := some 85, op := Op.move (Operand.tmp 11), type := 3, pos := _, after := #[], guard := none }) (v := ?_) rfl (by kernel_rfl) (by kernel_rfl) (by kernel_rfl) (fun _ _ _ h => h) (Or.inl ⟨by rfl, ?_⟩) (by assumption) ?_
    rotate_left
    · intro wt hSw; (try dsimp only at hSw); have e0 := cellB hSw e0 zb; have e1 := cellB hSw e1 zb; have e2 := cellB hSw e2 zb; have e3 := cellB hSw e3 zb; have k0 := cellB hSw k0 zc; have k1 := cellB hSw k1 zc; have k2 := cellB hSw k2 zc; have s0 := cellB hSw s0 zs; first | (go_simp; done) | (go_simp; with_reducible rfl) | (trace_state; fail)
    try simp only [Act.put, List.setIfInBounds_toArray, List.set_cons_zero, List.set_cons_succ]
    refine wpAnyH_take (i := 8) (oi := { dst := some 86, op := Op.indexAddr 30 (Operand.tmp 84) (Operand.tmp 85), type := 0, pos := _, after := #[{ on := 6, ground := Ground.data }, { on := 7, ground := Ground.data }], guard := none }) (v := ?_) rfl (by kernel_rfl) (by kernel_rfl) (by kernel_rfl) (fun _ _ _ h => h) (Or.inl ⟨by rfl, ?_⟩) (by assumption) ?_
    rotate_left
    · intro wt hSw; (try dsimp only at hSw); have e0 := cellB hSw e0 zb; have e1 := cellB hSw e1 zb; have e2 := cellB hSw e2 zb; have e3 := cellB hSw e3 zb; have k0 := cellB hSw k0 zc; have k1 := cellB hSw k1 zc; have k2 := cellB hSw k2 zc; have s0 := cellB hSw s0 zs; first | (go_simp; done) | (go_simp; with_reducible rfl) | (trace_state; fail)
    try simp only [Act.put, List.setIfInBounds_toArray, List.set_cons_zero, List.set_cons_succ]
    refine wpAnyH_take (i := 9) (oi := { dst := some 87, op := Op.load 36 (Operand.tmp 86), type := 36, pos := _, after := #[{ on := 8, ground := Ground.data }], guard := none }) (v := ?_) rfl (by kernel_rfl) (by kernel_rfl) (by kernel_rfl) (fun _ _ _ h => h) (Or.inl ⟨by rfl, ?_⟩) (by assumption) ?_
    rotate_left
    · intro wt hSw; (try dsimp only at hSw); have e0 := cellB hSw e0 zb; have e1 := cellB hSw e1 zb; have e2 := cellB hSw e2 zb; have e3 := cellB hSw e3 zb; have k0 := cellB hSw k0 zc; have k1 := cellB hSw k1 zc; have k2 := cellB hSw k2 zc; have s0 := cellB hSw s0 zs; first | (go_simp; done) | (go_simp; with_reducible rfl) | (trace_state; fail)
    try simp only [Act.put, List.setIfInBounds_toArray, List.set_cons_zero, List.set_cons_succ]
    refine wpAnyH_ready (rs := [10]) (by kernel_rfl) (by simp) ?_
    refine AllReadyH.cons (o := { dst := some 88, op := Op.call { callee := Callee.value (Operand.func 11), args := #[Operand.tmp 78, Operand.tmp 79, Operand.tmp 83, Operand.tmp 87], argTypes := #[27, 3, 45, 36] }, type := 42, pos := _, after := #[{ on := 0, ground := Ground.data }, { on := 1, ground := Ground.data }, { on := 5, ground := Ground.data }, { on := 9, ground := Ground.data }], guard := none }) rfl (fun K hK => ?_) AllReadyH.nil
    go_simp
    refine (HStp.out _ hHeld).mono ?_; rintro e v1 ⟨r0, rfl, hr, hb1⟩; have hHeld := hHeld.trans (hb1.mono hHeld.size); have HHv := Lib.hid hHeld; have Hr := Lib.hid hr; obtain ⟨ra, rc, rfl⟩ := row_get hr; clear hr hb1
    go_wp2_with fail
    refine hK.out _ _ ?_ (fun hHeld => ?_)
    · (try dsimp only); first | assumption | exact Below.alloc hHeld hHeld.size _ | exact (Below.refl _ _).drew | exact Below.drew (Below.refl _ _) | exact Below_drewN _ _ _ | exact Below.refl _ _ | (trace_state; fail)
    clear hK K
    try simp only [Act.put, List.setIfInBounds_toArray, List.set_cons_zero, List.set_cons_succ]
    refine wpAnyH_take (i := 11) (oi := { dst := some 77, op := Op.move (Operand.tmp 88), type := 42, pos := _, after := #[{ on := 10, ground := Ground.data }], guard := none }) (v := ?_) rfl (by kernel_rfl) (by kernel_rfl) (by kernel_rfl) (fun _ _ _ h => h) (Or.inl ⟨by rfl, ?_⟩) (by assumption) ?_
    rotate_left
    · intro wt hSw; (try dsimp only at hSw); have e0 := cellB hSw e0 zb; have e1 := cellB hSw e1 zb; have e2 := cellB hSw e2 zb; have e3 := cellB hSw e3 zb; have k0 := cellB hSw k0 zc; have k1 := cellB hSw k1 zc; have k2 := cellB hSw k2 zc; have s0 := cellB hSw s0 zs; first | (go_simp; done) | (go_simp; with_reducible rfl) | (trace_state; fail)
    try simp only [Act.put, List.setIfInBounds_toArray, List.set_cons_zero, List.set_cons_succ]
    refine wpAnyH_take (i := 12) (oi := { dst := some 89, op := Op.extract (Operand.tmp 77) 0, type := 36, pos := _, after := #[{ on := 11, ground := Ground.data }], guard := none }) (v := ?_) rfl (by kernel_rfl) (by kernel_rfl) (by kernel_rfl) (fun _ _ _ h => h) (Or.inl ⟨by rfl, ?_⟩) (by assumption) ?_
    rotate_left
    · intro wt hSw; (try dsimp only at hSw); have e0 := cellB hSw e0 zb; have e1 := cellB hSw e1 zb; have e2 := cellB hSw e2 zb; have e3 := cellB hSw e3 zb; have k0 := cellB hSw k0 zc; have k1 := cellB hSw k1 zc; have k2 := cellB hSw k2 zc; have s0 := cellB hSw s0 zs; first | (go_simp; done) | (go_simp; with_reducible rfl) | (trace_state; fail)
    try simp only [Act.put, List.setIfInBounds_toArray, List.set_cons_zero, List.set_cons_succ]
    refine wpAnyH_take (i := 13) (oi := { dst := some 90, op := Op.extract (Operand.tmp 77) 1, type := 32, pos := _, after := #[{ on := 11, ground := Ground.data }, { on := 14, ground := Ground.gcOnly Departure.lateStores }], guard := none }) (v := ?_) rfl (by kernel_rfl) (by kernel_rfl) (by kernel_rfl) (fun _ _ _ h => h) (Or.inl ⟨by rfl, ?_⟩) (by assumption) ?_
    rotate_left
    · intro wt hSw; (try dsimp only at hSw); have e0 := cellB hSw e0 zb; have e1 := cellB hSw e1 zb; have e2 := cellB hSw e2 zb; have e3 := cellB hSw e3 zb; have k0 := cellB hSw k0 zc; have k1 := cellB hSw k1 zc; have k2 := cellB hSw k2 zc; have s0 := cellB hSw s0 zs; first | (go_simp; done) | (go_simp; with_reducible rfl) | (trace_state; fail)
    try simp only [Act.put, List.setIfInBounds_toArray, List.set_cons_zero, List.set_cons_succ]
    refine wpAnyH_take (i := 14) (oi := { dst := some 12, op := Op.assign (Operand.tmp 89), type := 36, pos := _, after := #[{ on := 12, ground := Ground.data }, { on := 10, ground := Ground.chain }, { on := 0, ground := Ground.phase }, { on := 1, ground := Ground.phase }, { on := 2, ground := Ground.phase }, { on := 3, ground := Ground.phase }, { on := 4, ground := Ground.phase }, { on := 5, ground := Ground.phase }, { on := 6, ground := Ground.phase }, { on := 7, ground := Ground.phase }, { on := 8, ground := Ground.phase }, { on := 9, ground := Ground.phase }, { on := 10, ground := Ground.phase }, { on := 11, ground := Ground.phase }, { on := 12, ground := Ground.phase }, { on := 13, ground := Ground.textOnly Departure.lateStores }], guard := none }) (v := ?_) rfl (by kernel_rfl) (by kernel_rfl) (by kernel_rfl) (fun _ _ _ h => h) (Or.inl ⟨by rfl, ?_⟩) (by assumption) ?_
    rotate_left
    · intro wt hSw; (try dsimp only at hSw); have e0 := cellB hSw e0 zb; have e1 := cellB hSw e1 zb; have e2 := cellB hSw e2 zb; have e3 := cellB hSw e3 zb; have k0 := cellB hSw k0 zc; have k1 := cellB hSw k1 zc; have k2 := cellB hSw k2 zc; have s0 := cellB hSw s0 zs; first | (go_simp; done) | (go_simp; with_reducible rfl) | (trace_state; fail)
    try simp only [Act.put, List.setIfInBounds_toArray, List.set_cons_zero, List.set_cons_succ]
    refine wpAnyH_take (i := 15) (oi := { dst := some 13, op := Op.assign (Operand.tmp 90), type := 32, pos := _, after := #[{ on := 13, ground := Ground.data }, { on := 14, ground := Ground.chain }, { on := 0, ground := Ground.phase }, { on := 1, ground := Ground.phase }, { on := 2, ground := Ground.phase }, { on := 3, ground := Ground.phase }, { on := 4, ground := Ground.phase }, { on := 5, ground := Ground.phase }, { on := 6, ground := Ground.phase }, { on := 7, ground := Ground.phase }, { on := 8, ground := Ground.phase }, { on := 9, ground := Ground.phase }, { on := 10, ground := Ground.phase }, { on := 11, ground := Ground.phase }, { on := 12, ground := Ground.phase }, { on := 13, ground := Ground.phase }, { on := 14, ground := Ground.phase }], guard := none }) (v := ?_) rfl (by kernel_rfl) (by kernel_rfl) (by kernel_rfl) (fun _ _ _ h => h) (Or.inl ⟨by rfl, ?_⟩) (by assumption) ?_
    rotate_left
    · intro wt hSw; (try dsimp only at hSw); have e0 := cellB hSw e0 zb; have e1 := cellB hSw e1 zb; have e2 := cellB hSw e2 zb; have e3 := cellB hSw e3 zb; have k0 := cellB hSw k0 zc; have k1 := cellB hSw k1 zc; have k2 := cellB hSw k2 zc; have s0 := cellB hSw s0 zs; first | (go_simp; done) | (go_simp; with_reducible rfl) | (trace_state; fail)
    try simp only [Act.put, List.setIfInBounds_toArray, List.set_cons_zero, List.set_cons_succ]
    refine wpAnyH_done (by kernel_rfl) ?_ _
    clear e0 e1 e2 e3 HStp
    go_wp2_with fail
    refine (HBh.out _ HHv.out).mono ?_; rintro e v2 ⟨rb0, rfl, hrb, hb5⟩
    have HH2 := Lib.hid (HHv.out.trans (hb5.mono HHv.out.size))
    have Hr2 := Lib.hid (Hr.out.below intR_stable hb5)
    have Hrb := Lib.hid hrb
    obtain ⟨ba, bd, rfl⟩ := row_get hrb
    have k0 := cellB HH2.out k0 zc
    have s0 := cellB HH2.out s0 zs
    obtain ⟨m, hm⟩ : ∃ m, BL.length = m := ⟨_, rfl⟩
    have HM := Lib.hid hm
    obtain ⟨bb, hbb⟩ : ∃ b, (xo == 34) = b := ⟨_, rfl⟩
    have q6 : (((m : Nat) : Int) == 0) = bb := by
      rw [← hbb]
      have h := HBn.out
      rw [hm] at h
      by_cases h34 : xo = 34
      · rw [h.2 h34, h34]; rfl
      · have h0 : m ≠ 0 := fun e => h34 (h.1 e)
        rw [show (xo == 34) = false by simpa using h34]
        simp; omega
    have q7 : (bb != bb) = false := by simp
    have hm70 : m ≤ 70000 := by rw [← hm]; exact HBl.out
    obtain ⟨ns, hns⟩ : ∃ m, SS.length = m := ⟨_, rfl⟩
    have HNs := Lib.hid hns
    rw [hns] at h2
    rw [hm, hns]
    clear hrb hb5 k1 k2 hm hns HBn HBh
    go_wp2_with fail
    go_loopw [15] (fun jj wx => ∃ j : Nat, j ≤ m ∧ jj = .int .i64 j ∧ Hid (Below v2.heap.size v2 wx)) (fun jj _ => m - (intOf jj).toNat)
    case atStart => exact ⟨0, Nat.zero_le _, rfl, Lib.hid (Below.refl _ _)⟩
    case round =>
      obtain ⟨j, hj, rfl, hX⟩ := hrel
      rename World => wx
      have HX := hX
      clear k0 s0
      by_cases hlj : j < m
      case neg =>
        obtain rfl : m = j := by omega
        have q8 : ((m : Int) < (m : Int)) = False := eq_false (by omega)
        have q8' : (m < m) = False := eq_false (by omega)
        have HFin := Lib.hid (HBr.out.trans ((HH2.out.trans (hX.out.mono HH2.out.size)).mono HBr.out.size))
        clear hX hlj hj
        go_wp2_with fail
        go_roundw
        case rel => exact ⟨k + 1, by have := HK.out; omega, by simp, HFin⟩
        case measure => have := HK.out; first | (simp [intOf]; done) | (simp [intOf]; omega)
      have q8 : ((j : Int) < (m : Int)) = True := eq_true (by omega)
      have q8' : (j < m) = True := eq_true hlj
      have hj62 : j ≤ 9223372036854775806 := by omega
      have HJ := Lib.hid hlj
      obtain ⟨z, hz⟩ := get_some (L := BL) (n := j) (by rw [HM.out]; exact hlj)
      obtain ⟨hin, hre, hstk⟩ := HBeh.out z (List.mem_of_getElem? hz)
      obtain ⟨zn, rfl⟩ : ∃ zn : Nat, z = (zn : Int) := ⟨z.toNat, by unfold TY.inB at hin; omega⟩
      have hzn : zn < n := by unfold TY.inB at hin; omega
      rw [Int.toNat_natCast] at hre hstk
      have hrx := Hrb.out.below intR_stable hX.out
      rw [HM.out] at hrx
      obtain ⟨g, o1, e8, _, _, _, c0, _⟩ := int_at hrx (k := j) (by rw [HM.out]; exact hlj)
      subst e8
      rw [show BL.getD j 0 = (zn : Int) by simp [List.getD, hz]] at c0
      have hb2x := HB2r.out.trans ((HH2.out.trans (hX.out.mono HH2.out.size)).mono HB2r.out.size)
      have r1 := HReach.out wx hb2x zn hzn
      rw [hre] at r1
      obtain ⟨tz, htz⟩ := get_some (L := s.stacks) (n := zn) (by rw [HN.out.2.1]; exact hzn)
      obtain ⟨gs2, os2, su2, sc3, e9, hgs2, _, _, s1, hsl2⟩ := grid_at HS.out htz
      obtain ⟨rfl, rfl⟩ : gs = gs2 ∧ os = os2 := by simpa using e9
      have htS : tz = SS := by rw [← hstk]; simp [List.getD, htz]
      subst htS
      have s1 := cellB hb2x s1 hgs2
      have hsl2 := hsl2.below intR_stable hb2x
      have hSr := Hr2.out.below intR_stable hX.out
      rw [HNs.out] at s1 hsl2 hSr
      have HIn := Lib.hid (ref15_Ints _ _ tz tz wx hsl2 hSr)
      rw [show decide (tz = tz) = true from decide_eq_true rfl] at HIn
      have z1 : ((zn : Int) < (n : Int)) = True := eq_true (by omega)
      have z1' : (zn < n) = True := eq_true hzn
      have z2 : ((n : Int) ≤ (zn : Int)) = False := eq_false (by omega)
      have z2' : (n ≤ zn) = False := eq_false (by omega)
      have z3 : ((zn : Int) < 0) = False := eq_false (by omega)
      clear hX hlj hj hz hin hre hstk hzn hrx hb2x htz e9 hgs2 hsl2 hSr
      go_wp2_with fail
      refine HIn.out.mono ?_; rintro e w9 ⟨rfl, dk, rfl⟩
      have HX2 := Lib.hid (HX.out.trans ((Below_drewN wx.heap.size wx dk).mono HX.out.size))
      go_wp2_with fail
      go_roundw
      case rel => exact ⟨j + 1, by have := HJ.out; omega, by simp, HX2⟩
      case measure => have := HJ.out; first | (simp [intOf]; done) | (simp [intOf]; omega)
end Go.Proofs.YtnkmnmlhjanplaaDoor
