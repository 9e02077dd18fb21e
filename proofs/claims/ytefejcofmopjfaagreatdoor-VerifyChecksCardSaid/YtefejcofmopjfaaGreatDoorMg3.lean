/- Merged texts: TyVisit, TyEnt, VfT, ClA, ClB, VfO, VfP. -/
import Derived.Test.YtefejcofmopjfaaGreatDoorMg1
import Derived.Test.YtefejcofmopjfaaGreatDoorMg2
import Derived.Laws.EntriesVeiled
import Derived.Deep.LoopGhost
import Derived.Lib.SlicesCompact
import Derived.Test.YtefejcofmopjfaaGreatDoorPgm
import Derived.Test.YtefejcofmopjfaaGreatDoorMg0
/- typing.walk: visit. -/
namespace Go.Proofs.YtefejcofmopjfaaGreatDoor
open Go.RowKit
set_option linter.unusedSimpArgs false
set_option linter.unusedVariables false
def tyE (p : Pr) (u : Int) (L : List Ins) : TY.Env := ⟨L.length, fun pc st => stepE p u (L.getD pc (0, 0, 0)).1 (L.getD pc (0, 0, 0)).2.1 (L.getD pc (0, 0, 0)).2.2 st, fun pc st => stepS p u (L.getD pc (0, 0, 0)).1 (L.getD pc (0, 0, 0)).2.1 (L.getD pc (0, 0, 0)).2.2 st, fun pc => behL (L.getD pc (0, 0, 0)) pc⟩
/-- operands that Behind takes -/
def OkL (L : List Ins) : Prop := ∀ (k : Nat) (x : Ins), L[k]? = some x → (0 ≤ x.2.1 ∧ x.2.1 ≤ 65535) ∧ (x.1 = 32 → x.2.1 ≤ L.length)
theorem stepS_len (p : Pr) (u o a b : Int) (st : List Int) : (stepS p u o a b st).length ≤ 32 := by
  unfold stepS
  split
  · unfold stpS
    split
    · rename_i h
      unfold stpE at h
      split at h
      · cases h
      · split at h
        · cases h
        · split at h
          · cases h
          · rename_i h3
            rw [List.length_append, List.length_take]
            omega
    · simp
  · simp
theorem behL_len {x : Ins} (k : Nat) (h : x.2.1 ≤ 65535) : (behL x k).length ≤ 70000 := by
  unfold behL two
  repeat' split
  all_goals first | (simp; done) | (simp; omega)
/-- a row in blocks that stay -/
theorem row_range {w v2 wr : World} {v : Value} {l : List Int} (h : RowR 1 intR v2 v l) (hn : NewIn w v) (hk : ∀ k, w.heap.size ≤ k → k < v2.heap.size → wr.heap[k]? = v2.heap[k]?) (hs : v2.heap.size ≤ wr.heap.size) : RowR 1 intR wr v l := by
  rcases h with h | ⟨b, off, cap, h1, h2, h3, h4, h5, h6⟩
  · exact Or.inl h
  · refine Or.inr ⟨b, off, cap, h1, h2, h3, h4, Nat.lt_of_lt_of_le h5 hs, fun i x hx => ?_⟩
    obtain ⟨C, g1, g2, g3⟩ := h6 i x hx
    exact ⟨C, g1, fun j u hu => (World.cell?_of_block (hk b (hn _ _ _ h1) h5)).trans (g2 j u hu), g3⟩
set_option maxRecDepth 100000 in
set_option maxHeartbeats 1000000 in
theorem visit_there (z : Int) (hz : I64 z) (bx G n : Nat) (a : Option Addr) (c : Nat) (W : World) (hb : W.cell? ⟨bx, 0, none⟩ = some (.pointer (some ⟨G, 0, none⟩))) (hc : W.cell? ⟨G, 5, none⟩ = some (.slice a n c)) :
    Calls Tryz.prog 78 #[.int .i64 z, .pointer (some ⟨bx, 0, none⟩)] W fun e w' => e = .returned (.bool (decide (TY.inB n z))) ∧ w' = W := by
  obtain ⟨Z, hZ⟩ : ∃ Z, decide (TY.inB n z) = Z := ⟨_, rfl⟩
  have HZ := Lib.hid hZ
  rw [hZ]
  clear hZ
  by_cases h0 : z < 0
  · have q1 : (z < 0) = True := eq_true h0
    have q2 : (0 ≤ z) = False := eq_false (by omega)
    have HR := Lib.hid (show Z = false by rw [← HZ.out]; exact decide_eq_false (fun h => by unfold TY.inB at h; omega))
    clear h0
    go_enter Tryz.func78, Tryz.ntmps78
    go_wp2_with fail
    go_ret
    exact ⟨by rw [HR.out]; rfl, rfl⟩
  · have q1 : (z < 0) = False := eq_false h0
    have q2 : (0 ≤ z) = True := eq_true (by omega)
    by_cases h1 : z < n
    · have q3 : (z < (n : Int)) = True := eq_true h1
      have HR := Lib.hid (show Z = true by rw [← HZ.out]; exact decide_eq_true (show TY.inB n z from ⟨by omega, h1⟩))
      clear h0 h1
      go_enter Tryz.func78, Tryz.ntmps78
      go_wp2_with fail
      go_ret
      exact ⟨by rw [HR.out]; rfl, rfl⟩
    · have q3 : (z < (n : Int)) = False := eq_false h1
      have HR := Lib.hid (show Z = false by rw [← HZ.out]; exact decide_eq_false (fun h => h1 h.2))
      clear h0 h1
      go_enter Tryz.func78, Tryz.ntmps78
      go_wp2_with fail
      go_ret
      exact ⟨by rw [HR.out]; rfl, rfl⟩
/-- what visit leaves -/
def VisQ (B G gS gR n : Nat) (h : Hd) (Z : Int × WS) (w : World) (e : Ending) (w' : World) : Prop := e = .returned (.int .i64 Z.1) ∧ ∃ vQ' U', WAt B G gS gR n h vQ' U' Z.2 w' ∧ Below B w w'
set_option maxRecDepth 100000 in
set_option maxHeartbeats 4000000 in
theorem walk_visit {B G gS gR n : Nat} {vQ : Value} {U : List Value} {s : WS} {w : World} {cv pv bv uv vc : Value} {p : Pr} {u : Int} {L : List Ins} (k : WAt B G gS gR n ⟨cv, pv, bv, uv, .int .i64 u, vc⟩ vQ U s w) (hP : PrAt w cv pv bv uv p) (hT : TabR w) (hBt : BTab w) (hf : wideP p = true) (hc : RowR 3 insR w vc L) (hLn : L.length = n) (hn : n ≤ 300) (hOk : OkL L) (pc : Nat) (hpc : pc < n) (hF : TY.Fit n s) :
    Calls Tryz.prog 58 #[.pointer (some ⟨G, 0, none⟩), .int .i64 (pc : Int)] w (VisQ B G gS gR n ⟨cv, pv, bv, uv, .int .i64 u, vc⟩ (TY.visitF (tyE p u L) pc s) w) := by
  obtain ⟨x, hx⟩ := get_some (L := L) (n := pc) (by omega)
  have hxd : L.getD pc (0, 0, 0) = x := by simp [List.getD, hx]
  obtain ⟨hA, h32⟩ := hOk pc x hx
  obtain ⟨ca, cc, rfl⟩ := bh_get hc
  obtain ⟨l1, l2, l3⟩ := k.len
  obtain ⟨vu, hvu⟩ := get_some (L := U) (n := pc) (by omega)
  obtain ⟨st, hst, hro⟩ := row_of k.rows hvu
  have hstd : s.stacks.getD pc [] = st := by simp [List.getD, hst]
  have hfit := k.fit st (List.mem_of_getElem? hst)
  have hrow : RowR 1 intR w vu st := row_of_owns hro hfit.2
  obtain ⟨W1, hW1⟩ : ∃ W1, W1 = w.alloc (.cells #[.pointer (some ⟨G, 0, none⟩)] 109) := ⟨_, rfl⟩
  have hbW : Below w.heap.size w W1 := by rw [hW1]; exact (Below.refl _ _).alloc (Nat.le_refl _) _
  have hbx : W1.heap[w.heap.size]? = some (.cells #[.pointer (some ⟨G, 0, none⟩)] 109 (0, 0)) := by rw [hW1]; exact get_last rfl
  have k1 := k.below hbW
  have eb := obj_cell (i := 0) hbx rfl
  have zb : w.heap.size < W1.heap.size := heap_lt hbx
  have e0 : W1.cell? ⟨G, 0, none⟩ = some cv := obj_cell k1.obj rfl
  have e1 : W1.cell? ⟨G, 1, none⟩ = some pv := obj_cell k1.obj rfl
  have e2 : W1.cell? ⟨G, 2, none⟩ = some bv := obj_cell k1.obj rfl
  have e3 : W1.cell? ⟨G, 3, none⟩ = some uv := obj_cell k1.obj rfl
  have e4 : W1.cell? ⟨G, 4, none⟩ = some (.int .i64 u) := obj_cell k1.obj rfl
  have e5 : W1.cell? ⟨G, 5, none⟩ = some (.slice ca L.length cc) := obj_cell k1.obj rfl
  have e6 : W1.cell? ⟨G, 6, none⟩ = some (.slice (some ⟨gS, 0, none⟩) n n) := obj_cell k1.obj rfl
  have zG : G < W1.heap.size := heap_lt k1.obj
  have s0 : W1.cell? ⟨gS, pc, none⟩ = some vu := (k1.st.cellAt pc (by omega)).trans hvu
  have zS : gS < W1.heap.size := (owns_lt k1.st rfl).2
  obtain ⟨bc, oc, rfl, hbc, hcc⟩ := bh_at hc (k := pc) (by omega)
  obtain ⟨k0, k1', k2, i0, i1, i2⟩ := hcc pc x hx
  have k0 := cellB hbW k0 hbc
  have k2 := cellB hbW k2 hbc
  have k1c := cellB hbW k1' hbc
  have zc : bc < W1.heap.size := Nat.lt_of_lt_of_le hbc hbW.size
  have HStp := Lib.hid (fun W (hb : Below W1.heap.size W1 W) => stack_StepN cv pv bv uv p u x.1 x.2.1 x.2.2 vu st W ((hP.below hbW).below hb) ((hT.below hbW).below hb) ((hBt.below hbW).below hb) hf i1 i2 ((hrow.below intR_stable hbW).below intR_stable hb) (by have := hfit.1; omega))
  have HK1 := Lib.hid k1
  have HcW := Lib.hid (hc.below insR_stable hbW)
  have Hx := Lib.hid hx
  have HBh := Lib.hid (fun W (hb : Below W1.heap.size W1 W) => typing_BehindN (.slice (some ⟨bc, oc, none⟩) L.length cc) L pc x W (HcW.out.below insR_stable hb) hx (by omega) hA h32)
  have HZv := Lib.hid (show TY.visitF (tyE p u L) pc s = if ¬ stepE p u x.1 x.2.1 x.2.2 st = 0 then (stepE p u x.1 x.2.1 x.2.2 st, s) else if ¬ (∀ z ∈ behL x pc, TY.inB L.length z) then (11, s) else TY.goF (stepS p u x.1 x.2.1 x.2.2 st) (behL x pc) s by
    unfold TY.visitF tyE
    simp only [hxd, hstd])
  have Hbl := Lib.hid (behL_len (x := x) pc hA.2)
  have Hsl := Lib.hid (stepS_len p u x.1 x.2.1 x.2.2 st)
  obtain ⟨Z, hZ⟩ : ∃ Z, TY.visitF (tyE p u L) pc s = Z := ⟨_, rfl⟩
  rw [hZ] at HZv ⊢
  obtain ⟨E1, hE1⟩ : ∃ e, stepE p u x.1 x.2.1 x.2.2 st = e := ⟨_, rfl⟩
  obtain ⟨ST, hST⟩ : ∃ e, stepS p u x.1 x.2.1 x.2.2 st = e := ⟨_, rfl⟩
  rw [hE1, hST] at HZv HStp
  rw [hST] at Hsl
  obtain ⟨BL, hBL⟩ : ∃ e, behL x pc = e := ⟨_, rfl⟩
  rw [hBL] at HZv HBh Hbl
  have HF := Lib.hid hF
  have HLow := Lib.hid k.low
  have HVq := Lib.hid (show ∀ g, vQ.ownBlock = some g → g < w.heap.size from fun g hg => (owns_lt k.qu hg).2)
  have HGs := Lib.hid (show G < w.heap.size ∧ gS < w.heap.size ∧ gR < w.heap.size from ⟨heap_lt k.obj, (owns_lt k.st rfl).2, (owns_lt k.re rfl).2⟩)
  have HN := Lib.hid (And.intro hn hpc)
  have HbW := Lib.hid hbW
  have Hbx := Lib.hid hbx
  have HW1 := Lib.hid hW1
  have Hsz := Lib.hid hbW.size
  obtain ⟨xo, xa, xb⟩ := x
  simp only at k0 k1c k2 HStp HBh
  rw [hLn] at e5 HBh HZv
  have HLn := Lib.hid hLn
  have q1 : ((pc : Int) < (n : Int)) = True := eq_true (by omega)
  have q1' : (pc < n) = True := eq_true hpc
  clear k k1 hP hT hBt hc hOk hx hxd hA h32 l1 l2 l3 hvu hst hro hstd hfit hrow hbW hbx hbc hcc i0 i1 i2 k1' hZ hE1 hST hBL hF hn hpc hLn hf
  have k1 := k1c
  clear k1c
  go_enter Tryz.func58, Tryz.ntmps58
  go_wp2_with fail
  rw [← HW1.out]
  clear hW1
  refine wp_region_held_drew (S := (fun w' => Below W1.heap.size W1 w')) (by kernel_rfl) ?_ (fun hHeld => ?_)
  · (try dsimp only); first | assumption | exact Below.alloc hHeld hHeld.size _ | exact (Below.refl _ _).drew | exact Below.drew (Below.refl _ _) | exact Below_drewN _ _ _ | exact Below.refl _ _ | (trace_state; fail)
  refine wpAnyH_take (i := 0) (oi := { dst := some 15, op := Op.load 109 (Operand.tmp 2), type := 109, pos := _, after := #[], guard := none }) (v := ?_) rfl (by kernel_rfl) (by kernel_rfl) (by kernel_rfl) (fun _ _ _ h => h) (Or.inl ⟨by rfl, ?_⟩) (by assumption) ?_
  rotate_left
  · intro wt hSw; (try dsimp only at hSw); have eb := cellB hSw eb zb; have e0 := cellB hSw e0 zG; have e1 := cellB hSw e1 zG; have e2 := cellB hSw e2 zG; have e3 := cellB hSw e3 zG; have e4 := cellB hSw e4 zG; have e5 := cellB hSw e5 zG; have e6 := cellB hSw e6 zG; have k0 := cellB hSw k0 zc; have k1 := cellB hSw k1 zc; have k2 := cellB hSw k2 zc; have s0 := cellB hSw s0 zS; first | (go_simp; done) | (go_simp; with_reducible rfl) | (trace_state; fail)
  try simp only [Act.put, List.setIfInBounds_toArray, List.set_cons_zero, List.set_cons_succ]
  refine wpAnyH_take (i := 1) (oi := { dst := some 16, op := Op.nilCheck (Operand.tmp 15), type := 0, pos := _, after := #[{ on := 0, ground := Ground.data }], guard := none }) (v := ?_) rfl (by kernel_rfl) (by kernel_rfl) (by kernel_rfl) (fun _ _ _ h => h) (Or.inl ⟨by rfl, ?_⟩) (by assumption) ?_
  rotate_left
  · intro wt hSw; (try dsimp only at hSw); have eb := cellB hSw eb zb; have e0 := cellB hSw e0 zG; have e1 := cellB hSw e1 zG; have e2 := cellB hSw e2 zG; have e3 := cellB hSw e3 zG; have e4 := cellB hSw e4 zG; have e5 := cellB hSw e5 zG; have e6 := cellB hSw e6 zG; have k0 := cellB hSw k0 zc; have k1 := cellB hSw k1 zc; have k2 := cellB hSw k2 zc; have s0 := cellB hSw s0 zS; first | (go_simp; done) | (go_simp; with_reducible rfl) | (trace_state; fail)
  try simp only [Act.put, List.setIfInBounds_toArray, List.set_cons_zero, List.set_cons_succ]
  refine wpAnyH_take (i := 2) (oi := { dst := some 17, op := Op.fieldAddr 112 (Operand.tmp 16) 0, type := 0, pos := _, after := #[{ on := 1, ground := Ground.data }], guard := none }) (v := ?_) rfl (by kernel_rfl) (by kernel_rfl) (by kernel_rfl) (fun _ _ _ h => h) (Or.inl ⟨by rfl, ?_⟩) (by assumption) ?_
  rotate_left
  · intro wt hSw; (try dsimp only at hSw); have eb := cellB hSw eb zb; have e0 := cellB hSw e0 zG; have e1 := cellB hSw e1 zG; have e2 := cellB hSw e2 zG; have e3 := cellB hSw e3 zG; have e4 := cellB hSw e4 zG; have e5 := cellB hSw e5 zG; have e6 := cellB hSw e6 zG; have k0 := cellB hSw k0 zc; have k1 := cellB hSw k1 zc; have k2 := cellB hSw k2 zc; have s0 := cellB hSw s0 zS; first | (go_simp; done) | (go_simp; with_reducible rfl) | (trace_state; fail)
  try simp only [Act.put, List.setIfInBounds_toArray, List.set_cons_zero, List.set_cons_succ]
  refine wpAnyH_take (i := 3) (oi := { dst := some 18, op := Op.load 27 (Operand.tmp 17), type := 27, pos := _, after := #[{ on := 2, ground := Ground.data }], guard := none }) (v := ?_) rfl (by kernel_rfl) (by kernel_rfl) (by kernel_rfl) (fun _ _ _ h => h) (Or.inl ⟨by rfl, ?_⟩) (by assumption) ?_
  rotate_left
  · intro wt hSw; (try dsimp only at hSw); have eb := cellB hSw eb zb; have e0 := cellB hSw e0 zG; have e1 := cellB hSw e1 zG; have e2 := cellB hSw e2 zG; have e3 := cellB hSw e3 zG; have e4 := cellB hSw e4 zG; have e5 := cellB hSw e5 zG; have e6 := cellB hSw e6 zG; have k0 := cellB hSw k0 zc; have k1 := cellB hSw k1 zc; have k2 := cellB hSw k2 zc; have s0 := cellB hSw s0 zS; first | (go_simp; done) | (go_simp; with_reducible rfl) | (trace_state; fail)
  try simp only [Act.put, List.setIfInBounds_toArray, List.set_cons_zero, List.set_cons_succ]
  refine wpAnyH_take (i := 4) (oi := { dst := some 19, op := Op.load 109 (Operand.tmp 2), type := 109, pos := _, after := #[], guard := none }) (v := ?_) rfl (by kernel_rfl) (by kernel_rfl) (by kernel_rfl) (fun _ _ _ h => h) (Or.inl ⟨by rfl, ?_⟩) (by assumption) ?_
  rotate_left
  · intro wt hSw; (try dsimp only at hSw); have eb := cellB hSw eb zb; have e0 := cellB hSw e0 zG; have e1 := cellB hSw e1 zG; have e2 := cellB hSw e2 zG; have e3 := cellB hSw e3 zG; have e4 := cellB hSw e4 zG; have e5 := cellB hSw e5 zG; have e6 := cellB hSw e6 zG; have k0 := cellB hSw k0 zc; have k1 := cellB hSw k1 zc; have k2 := cellB hSw k2 zc; have s0 := cellB hSw s0 zS; first | (go_simp; done) | (go_simp; with_reducible rfl) | (trace_state; fail)
  try simp only [Act.put, List.setIfInBounds_toArray, List.set_cons_zero, List.set_cons_succ]
  refine wpAnyH_take (i := 5) (oi := { dst := some 20, op := Op.nilCheck (Operand.tmp 19), type := 0, pos := _, after := #[{ on := 4, ground := Ground.data }], guard := none }) (v := ?_) rfl (by kernel_rfl) (by kernel_rfl) (by kernel_rfl) (fun _ _ _ h => h) (Or.inl ⟨by rfl, ?_⟩) (by assumption) ?_
  rotate_left
  · intro wt hSw; (try dsimp only at hSw); have eb := cellB hSw eb zb; have e0 := cellB hSw e0 zG; have e1 := cellB hSw e1 zG; have e2 := cellB hSw e2 zG; have e3 := cellB hSw e3 zG; have e4 := cellB hSw e4 zG; have e5 := cellB hSw e5 zG; have e6 := cellB hSw e6 zG; have k0 := cellB hSw k0 zc; have k1 := cellB hSw k1 zc; have k2 := cellB hSw k2 zc; have s0 := cellB hSw s0 zS; first | (go_simp; done) | (go_simp; with_reducible rfl) | (trace_state; fail)
  try simp only [Act.put, List.setIfInBounds_toArray, List.set_cons_zero, List.set_cons_succ]
  refine wpAnyH_take (i := 6) (oi := { dst := some 21, op := Op.fieldAddr 112 (Operand.tmp 20) 1, type := 0, pos := _, after := #[{ on := 5, ground := Ground.data }], guard := none }) (v := ?_) rfl (by kernel_rfl) (by kernel_rfl) (by kernel_rfl) (fun _ _ _ h => h) (Or.inl ⟨by rfl, ?_⟩) (by assumption) ?_
  rotate_left
  · intro wt hSw; (try dsimp only at hSw); have eb := cellB hSw eb zb; have e0 := cellB hSw e0 zG; have e1 := cellB hSw e1 zG; have e2 := cellB hSw e2 zG; have e3 := cellB hSw e3 zG; have e4 := cellB hSw e4 zG; have e5 := cellB hSw e5 zG; have e6 := cellB hSw e6 zG; have k0 := cellB hSw k0 zc; have k1 := cellB hSw k1 zc; have k2 := cellB hSw k2 zc; have s0 := cellB hSw s0 zS; first | (go_simp; done) | (go_simp; with_reducible rfl) | (trace_state; fail)
  try simp only [Act.put, List.setIfInBounds_toArray, List.set_cons_zero, List.set_cons_succ]
  refine wpAnyH_take (i := 7) (oi := { dst := some 22, op := Op.load 3 (Operand.tmp 21), type := 3, pos := _, after := #[{ on := 6, ground := Ground.data }], guard := none }) (v := ?_) rfl (by kernel_rfl) (by kernel_rfl) (by kernel_rfl) (fun _ _ _ h => h) (Or.inl ⟨by rfl, ?_⟩) (by assumption) ?_
  rotate_left
  · intro wt hSw; (try dsimp only at hSw); have eb := cellB hSw eb zb; have e0 := cellB hSw e0 zG; have e1 := cellB hSw e1 zG; have e2 := cellB hSw e2 zG; have e3 := cellB hSw e3 zG; have e4 := cellB hSw e4 zG; have e5 := cellB hSw e5 zG; have e6 := cellB hSw e6 zG; have k0 := cellB hSw k0 zc; have k1 := cellB hSw k1 zc; have k2 := cellB hSw k2 zc; have s0 := cellB hSw s0 zS; first | (go_simp; done) | (go_simp; with_reducible rfl) | (trace_state; fail)
  try simp only [Act.put, List.setIfInBounds_toArray, List.set_cons_zero, List.set_cons_succ]
  refine wpAnyH_take (i := 8) (oi := { dst := some 23, op := Op.load 109 (Operand.tmp 2), type := 109, pos := _, after := #[], guard := none }) (v := ?_) rfl (by kernel_rfl) (by kernel_rfl) (by kernel_rfl) (fun _ _ _ h => h) (Or.inl ⟨by rfl, ?_⟩) (by assumption) ?_
  rotate_left
  · intro wt hSw; (try dsimp only at hSw); have eb := cellB hSw eb zb; have e0 := cellB hSw e0 zG; have e1 := cellB hSw e1 zG; have e2 := cellB hSw e2 zG; have e3 := cellB hSw e3 zG; have e4 := cellB hSw e4 zG; have e5 := cellB hSw e5 zG; have e6 := cellB hSw e6 zG; have k0 := cellB hSw k0 zc; have k1 := cellB hSw k1 zc; have k2 := cellB hSw k2 zc; have s0 := cellB hSw s0 zS; first | (go_simp; done) | (go_simp; with_reducible rfl) | (trace_state; fail)
  try simp only [Act.put, List.setIfInBounds_toArray, List.set_cons_zero, List.set_cons_succ]
  refine wpAnyH_take (i := 9) (oi := { dst := some 24, op := Op.nilCheck (Operand.tmp 23), type := 0, pos := _, after := #[{ on := 8, ground := Ground.data }], guard := none }) (v := ?_) rfl (by kernel_rfl) (by kernel_rfl) (by kernel_rfl) (fun _ _ _ h => h) (Or.inl ⟨by rfl, ?_⟩) (by assumption) ?_
  rotate_left
  · intro wt hSw; (try dsimp only at hSw); have eb := cellB hSw eb zb; have e0 := cellB hSw e0 zG; have e1 := cellB hSw e1 zG; have e2 := cellB hSw e2 zG; have e3 := cellB hSw e3 zG; have e4 := cellB hSw e4 zG; have e5 := cellB hSw e5 zG; have e6 := cellB hSw e6 zG; have k0 := cellB hSw k0 zc; have k1 := cellB hSw k1 zc; have k2 := cellB hSw k2 zc; have s0 := cellB hSw s0 zS; first | (go_simp; done) | (go_simp; with_reducible rfl) | (trace_state; fail)
  try simp only [Act.put, List.setIfInBounds_toArray, List.set_cons_zero, List.set_cons_succ]
  refine wpAnyH_take (i := 10) (oi := { dst := some 25, op := Op.fieldAddr 112 (Operand.tmp 24) 2, type := 0, pos := _, after := #[{ on := 9, ground := Ground.data }], guard := none }) (v := ?_) rfl (by kernel_rfl) (by kernel_rfl) (by kernel_rfl) (fun _ _ _ h => h) (Or.inl ⟨by rfl, ?_⟩) (by assumption) ?_
  rotate_left
  · intro wt hSw; (try dsimp only at hSw); have eb := cellB hSw eb zb; have e0 := cellB hSw e0 zG; have e1 := cellB hSw e1 zG; have e2 := cellB hSw e2 zG; have e3 := cellB hSw e3 zG; have e4 := cellB hSw e4 zG; have e5 := cellB hSw e5 zG; have e6 := cellB hSw e6 zG; have k0 := cellB hSw k0 zc; have k1 := cellB hSw k1 zc; have k2 := cellB hSw k2 zc; have s0 := cellB hSw s0 zS; first | (go_simp; done) | (go_simp; with_reducible rfl) | (trace_state; fail)
  try simp only [Act.put, List.setIfInBounds_toArray, List.set_cons_zero, List.set_cons_succ]
  refine wpAnyH_take (i := 11) (oi := { dst := some 26, op := Op.load 36 (Operand.tmp 25), type := 36, pos := _, after := #[{ on := 10, ground := Ground.data }], guard := none }) (v := ?_) rfl (by kernel_rfl) (by kernel_rfl) (by kernel_rfl) (fun _ _ _ h => h) (Or.inl ⟨by rfl, ?_⟩) (by assumption) ?_
  rotate_left
  · intro wt hSw; (try dsimp only at hSw); have eb := cellB hSw eb zb; have e0 := cellB hSw e0 zG; have e1 := cellB hSw e1 zG; have e2 := cellB hSw e2 zG; have e3 := cellB hSw e3 zG; have e4 := cellB hSw e4 zG; have e5 := cellB hSw e5 zG; have e6 := cellB hSw e6 zG; have k0 := cellB hSw k0 zc; have k1 := cellB hSw k1 zc; have k2 := cellB hSw k2 zc; have s0 := cellB hSw s0 zS; first | (go_simp; done) | (go_simp; with_reducible rfl) | (trace_state; fail)
  try simp only [Act.put, List.setIfInBounds_toArray, List.set_cons_zero, List.set_cons_succ]
  refine wpAnyH_take (i := 12) (oi := { dst := some 27, op := Op.move (Operand.tmp 1), type := 3, pos := _, after := #[], guard := none }) (v := ?_) rfl (by kernel_rfl) (by kernel_rfl) (by kernel_rfl) (fun _ _ _ h => h) (Or.inl ⟨by rfl, ?_⟩) (by assumption) ?_
  rotate_left
  · intro wt hSw; (try dsimp only at hSw); have eb := cellB hSw eb zb; have e0 := cellB hSw e0 zG; have e1 := cellB hSw e1 zG; have e2 := cellB hSw e2 zG; have e3 := cellB hSw e3 zG; have e4 := cellB hSw e4 zG; have e5 := cellB hSw e5 zG; have e6 := cellB hSw e6 zG; have k0 := cellB hSw k0 zc; have k1 := cellB hSw k1 zc; have k2 := cellB hSw k2 zc; have s0 := cellB hSw s0 zS; first | (go_simp; done) | (go_simp; with_reducible rfl) | (trace_state; fail)
  try simp only [Act.put, List.setIfInBounds_toArray, List.set_cons_zero, List.set_cons_succ]
  refine wpAnyH_take (i := 13) (oi := { dst := some 28, op := Op.indexAddr 36 (Operand.tmp 26) (Operand.tmp 27), type := 0, pos := _, after := #[{ on := 11, ground := Ground.data }, { on := 12, ground := Ground.data }], guard := none }) (v := ?_) rfl (by kernel_rfl) (by kernel_rfl) (by kernel_rfl) (fun _ _ _ h => h) (Or.inl ⟨by rfl, ?_⟩) (by assumption) ?_
  rotate_left
  · intro wt hSw; (try dsimp only at hSw); have eb := cellB hSw eb zb; have e0 := cellB hSw e0 zG; have e1 := cellB hSw e1 zG; have e2 := cellB hSw e2 zG; have e3 := cellB hSw e3 zG; have e4 := cellB hSw e4 zG; have e5 := cellB hSw e5 zG; have e6 := cellB hSw e6 zG; have k0 := cellB hSw k0 zc; have k1 := cellB hSw k1 zc; have k2 := cellB hSw k2 zc; have s0 := cellB hSw s0 zS; first | (go_simp; done) | (go_simp; with_reducible rfl) | (trace_state; fail)
  try simp only [Act.put, List.setIfInBounds_toArray, List.set_cons_zero, List.set_cons_succ]
  refine wpAnyH_take (i := 14) (oi := { dst := some 29, op := Op.load 40 (Operand.tmp 28), type := 40, pos := _, after := #[{ on := 13, ground := Ground.data }], guard := none }) (v := ?_) rfl (by kernel_rfl) (by kernel_rfl) (by kernel_rfl) (fun _ _ _ h => h) (Or.inl ⟨by rfl, ?_⟩) (by assumption) ?_
  rotate_left
  · intro wt hSw; (try dsimp only at hSw); have eb := cellB hSw eb zb; have e0 := cellB hSw e0 zG; have e1 := cellB hSw e1 zG; have e2 := cellB hSw e2 zG; have e3 := cellB hSw e3 zG; have e4 := cellB hSw e4 zG; have e5 := cellB hSw e5 zG; have e6 := cellB hSw e6 zG; have k0 := cellB hSw k0 zc; have k1 := cellB hSw k1 zc; have k2 := cellB hSw k2 zc; have s0 := cellB hSw s0 zS; first | (go_simp; done) | (go_simp; with_reducible rfl) | (trace_state; fail)
  try simp only [Act.put, List.setIfInBounds_toArray, List.set_cons_zero, List.set_cons_succ]
  refine wpAnyH_take (i := 15) (oi := { dst := some 30, op := Op.load 109 (Operand.tmp 2), type := 109, pos := _, after := #[], guard := none }) (v := ?_) rfl (by kernel_rfl) (by kernel_rfl) (by kernel_rfl) (fun _ _ _ h => h) (Or.inl ⟨by rfl, ?_⟩) (by assumption) ?_
  rotate_left
  · intro wt hSw; (try dsimp only at hSw); have eb := cellB hSw eb zb; have e0 := cellB hSw e0 zG; have e1 := cellB hSw e1 zG; have e2 := cellB hSw e2 zG; have e3 := cellB hSw e3 zG; have e4 := cellB hSw e4 zG; have e5 := cellB hSw e5 zG; have e6 := cellB hSw e6 zG; have k0 := cellB hSw k0 zc; have k1 := cellB hSw k1 zc; have k2 := cellB hSw k2 zc; have s0 := cellB hSw s0 zS; first | (go_simp; done) | (go_simp; with_reducible rfl) | (trace_state; fail)
  try simp only [Act.put, List.setIfInBounds_toArray, List.set_cons_zero, List.set_cons_succ]
  refine wpAnyH_take (i := 16) (oi := { dst := some 31, op := Op.nilCheck (Operand.tmp 30), type := 0, pos := _, after := #[{ on := 15, ground := Ground.data }], guard := none }) (v := ?_) rfl (by kernel_rfl) (by kernel_rfl) (by kernel_rfl) (fun _ _ _ h => h) (Or.inl ⟨by rfl, ?_⟩) (by assumption) ?_
  rotate_left
  · intro wt hSw; (try dsimp only at hSw); have eb := cellB hSw eb zb; have e0 := cellB hSw e0 zG; have e1 := cellB hSw e1 zG; have e2 := cellB hSw e2 zG; have e3 := cellB hSw e3 zG; have e4 := cellB hSw e4 zG; have e5 := cellB hSw e5 zG; have e6 := cellB hSw e6 zG; have k0 := cellB hSw k0 zc; have k1 := cellB hSw k1 zc; have k2 := cellB hSw k2 zc; have s0 := cellB hSw s0 zS; first | (go_simp; done) | (go_simp; with_reducible rfl) | (trace_state; fail)
  try simp only [Act.put, List.setIfInBounds_toArray, List.set_cons_zero, List.set_cons_succ]
  refine wpAnyH_take (i := 17) (oi := { dst := some 32, op := Op.fieldAddr 112 (Operand.tmp 31) 3, type := 0, pos := _, after := #[{ on := 16, ground := Ground.data }], guard := none }) (v := ?_) rfl (by kernel_rfl) (by kernel_rfl) (by kernel_rfl) (fun _ _ _ h => h) (Or.inl ⟨by rfl, ?_⟩) (by assumption) ?_
  rotate_left
  · intro wt hSw; (try dsimp only at hSw); have eb := cellB hSw eb zb; have e0 := cellB hSw e0 zG; have e1 := cellB hSw e1 zG; have e2 := cellB hSw e2 zG; have e3 := cellB hSw e3 zG; have e4 := cellB hSw e4 zG; have e5 := cellB hSw e5 zG; have e6 := cellB hSw e6 zG; have k0 := cellB hSw k0 zc; have k1 := cellB hSw k1 zc; have k2 := cellB hSw k2 zc; have s0 := cellB hSw s0 zS; first | (go_simp; done) | (go_simp; with_reducible rfl) | (trace_state; fail)
  try simp only [Act.put, List.setIfInBounds_toArray, List.set_cons_zero, List.set_cons_succ]
  refine wpAnyH_take (i := 18) (oi := { dst := some 33, op := Op.load 54 (Operand.tmp 32), type := 54, pos := _, after := #[{ on := 17, ground := Ground.data }], guard := none }) (v := ?_) rfl (by kernel_rfl) (by kernel_rfl) (by kernel_rfl) (fun _ _ _ h => h) (Or.inl ⟨by rfl, ?_⟩) (by assumption) ?_
  rotate_left
  · intro wt hSw; (try dsimp only at hSw); have eb := cellB hSw eb zb; have e0 := cellB hSw e0 zG; have e1 := cellB hSw e1 zG; have e2 := cellB hSw e2 zG; have e3 := cellB hSw e3 zG; have e4 := cellB hSw e4 zG; have e5 := cellB hSw e5 zG; have e6 := cellB hSw e6 zG; have k0 := cellB hSw k0 zc; have k1 := cellB hSw k1 zc; have k2 := cellB hSw k2 zc; have s0 := cellB hSw s0 zS; first | (go_simp; done) | (go_simp; with_reducible rfl) | (trace_state; fail)
  try simp only [Act.put, List.setIfInBounds_toArray, List.set_cons_zero, List.set_cons_succ]
  refine wpAnyH_take (i := 19) (oi := { dst := some 34, op := Op.move (Operand.tmp 1), type := 3, pos := _, after := #[], guard := none }) (v := ?_) rfl (by kernel_rfl) (by kernel_rfl) (by kernel_rfl) (fun _ _ _ h => h) (Or.inl ⟨by rfl, ?_⟩) (by assumption) ?_
  rotate_left
  · intro wt hSw; (try dsimp only at hSw); have eb := cellB hSw eb zb; have e0 := cellB hSw e0 zG; have e1 := cellB hSw e1 zG; have e2 := cellB hSw e2 zG; have e3 := cellB hSw e3 zG; have e4 := cellB hSw e4 zG; have e5 := cellB hSw e5 zG; have e6 := cellB hSw e6 zG; have k0 := cellB hSw k0 zc; have k1 := cellB hSw k1 zc; have k2 := cellB hSw k2 zc; have s0 := cellB hSw s0 zS; first | (go_simp; done) | (go_simp; with_reducible rfl) | (trace_state; fail)
  try simp only [Act.put, List.setIfInBounds_toArray, List.set_cons_zero, List.set_cons_succ]
  refine wpAnyH_take (i := 20) (oi := { dst := some 35, op := Op.indexAddr 54 (Operand.tmp 33) (Operand.tmp 34), type := 0, pos := _, after := #[{ on := 18, ground := Ground.data }, { on := 19, ground := Ground.data }], guard := none }) (v := ?_) rfl (by kernel_rfl) (by kernel_rfl) (by kernel_rfl) (fun _ _ _ h => h) (Or.inl ⟨by rfl, ?_⟩) (by assumption) ?_
  rotate_left
  · intro wt hSw; (try dsimp only at hSw); have eb := cellB hSw eb zb; have e0 := cellB hSw e0 zG; have e1 := cellB hSw e1 zG; have e2 := cellB hSw e2 zG; have e3 := cellB hSw e3 zG; have e4 := cellB hSw e4 zG; have e5 := cellB hSw e5 zG; have e6 := cellB hSw e6 zG; have k0 := cellB hSw k0 zc; have k1 := cellB hSw k1 zc; have k2 := cellB hSw k2 zc; have s0 := cellB hSw s0 zS; first | (go_simp; done) | (go_simp; with_reducible rfl) | (trace_state; fail)
  try simp only [Act.put, List.setIfInBounds_toArray, List.set_cons_zero, List.set_cons_succ]
  refine wpAnyH_take (i := 21) (oi := { dst := some 36, op := Op.load 35 (Operand.tmp 35), type := 35, pos := _, after := #[{ on := 20, ground := Ground.data }], guard := none }) (v := ?_) rfl (by kernel_rfl) (by kernel_rfl) (by kernel_rfl) (fun _ _ _ h => h) (Or.inl ⟨by rfl, ?_⟩) (by assumption) ?_
  rotate_left
  · intro wt hSw; (try dsimp only at hSw); have eb := cellB hSw eb zb; have e0 := cellB hSw e0 zG; have e1 := cellB hSw e1 zG; have e2 := cellB hSw e2 zG; have e3 := cellB hSw e3 zG; have e4 := cellB hSw e4 zG; have e5 := cellB hSw e5 zG; have e6 := cellB hSw e6 zG; have k0 := cellB hSw k0 zc; have k1 := cellB hSw k1 zc; have k2 := cellB hSw k2 zc; have s0 := cellB hSw s0 zS; first | (go_simp; done) | (go_simp; with_reducible rfl) | (trace_state; fail)
  try simp only [Act.put, List.setIfInBounds_toArray, List.set_cons_zero, List.set_cons_succ]
  refine wpAnyH_ready (rs := [22]) (by kernel_rfl) (by simp) ?_
  refine AllReadyH.cons (o := { dst := some 37, op := Op.call { callee := Callee.value (Operand.func 79), args := #[Operand.tmp 18, Operand.tmp 22, Operand.tmp 29, Operand.tmp 36], argTypes := #[27, 3, 40, 35] }, type := 78, pos := _, after := #[{ on := 3, ground := Ground.data }, { on := 7, ground := Ground.data }, { on := 14, ground := Ground.data }, { on := 21, ground := Ground.data }], guard := none }) rfl (fun K hK => ?_) AllReadyH.nil
  go_simp
  refine (HStp.out _ hHeld).mono ?_; rintro e v1 ⟨r, rfl, hr, hb1, hnw⟩; have HnwW := Lib.hid (hnw.low (w := w) (Nat.le_trans Hsz.out hHeld.size)); have hHeld := hHeld.trans (hb1.mono hHeld.size); have Hr := Lib.hid hr; have HHv := Lib.hid hHeld; clear hb1 hnw
  go_wp2_with fail
  refine hK.out _ _ ?_ (fun hHeld => ?_)
  · (try dsimp only); first | assumption | exact Below.alloc hHeld hHeld.size _ | exact (Below.refl _ _).drew | exact Below.drew (Below.refl _ _) | exact Below_drewN _ _ _ | exact Below.refl _ _ | (trace_state; fail)
  clear hK K
  try simp only [Act.put, List.setIfInBounds_toArray, List.set_cons_zero, List.set_cons_succ]
  refine wpAnyH_take (i := 23) (oi := { dst := some 14, op := Op.move (Operand.tmp 37), type := 78, pos := _, after := #[{ on := 22, ground := Ground.data }], guard := none }) (v := ?_) rfl (by kernel_rfl) (by kernel_rfl) (by kernel_rfl) (fun _ _ _ h => h) (Or.inl ⟨by rfl, ?_⟩) (by assumption) ?_
  rotate_left
  · intro wt hSw; (try dsimp only at hSw); have eb := cellB hSw eb zb; have e0 := cellB hSw e0 zG; have e1 := cellB hSw e1 zG; have e2 := cellB hSw e2 zG; have e3 := cellB hSw e3 zG; have e4 := cellB hSw e4 zG; have e5 := cellB hSw e5 zG; have e6 := cellB hSw e6 zG; have k0 := cellB hSw k0 zc; have k1 := cellB hSw k1 zc; have k2 := cellB hSw k2 zc; have s0 := cellB hSw s0 zS; first | (go_simp; done) | (go_simp; with_reducible rfl) | (trace_state; fail)
  try simp only [Act.put, List.setIfInBounds_toArray, List.set_cons_zero, List.set_cons_succ]
  refine wpAnyH_take (i := 24) (oi := { dst := some 38, op := Op.extract (Operand.tmp 14) 0, type := 35, pos := _, after := #[{ on := 23, ground := Ground.data }], guard := none }) (v := ?_) rfl (by kernel_rfl) (by kernel_rfl) (by kernel_rfl) (fun _ _ _ h => h) (Or.inl ⟨by rfl, ?_⟩) (by assumption) ?_
  rotate_left
  · intro wt hSw; (try dsimp only at hSw); have eb := cellB hSw eb zb; have e0 := cellB hSw e0 zG; have e1 := cellB hSw e1 zG; have e2 := cellB hSw e2 zG; have e3 := cellB hSw e3 zG; have e4 := cellB hSw e4 zG; have e5 := cellB hSw e5 zG; have e6 := cellB hSw e6 zG; have k0 := cellB hSw k0 zc; have k1 := cellB hSw k1 zc; have k2 := cellB hSw k2 zc; have s0 := cellB hSw s0 zS; first | (go_simp; done) | (go_simp; with_reducible rfl) | (trace_state; fail)
  try simp only [Act.put, List.setIfInBounds_toArray, List.set_cons_zero, List.set_cons_succ]
  refine wpAnyH_take (i := 25) (oi := { dst := some 39, op := Op.extract (Operand.tmp 14) 1, type := 30, pos := _, after := #[{ on := 23, ground := Ground.data }, { on := 26, ground := Ground.gcOnly Departure.lateStores }], guard := none }) (v := ?_) rfl (by kernel_rfl) (by kernel_rfl) (by kernel_rfl) (fun _ _ _ h => h) (Or.inl ⟨by rfl, ?_⟩) (by assumption) ?_
  rotate_left
  · intro wt hSw; (try dsimp only at hSw); have eb := cellB hSw eb zb; have e0 := cellB hSw e0 zG; have e1 := cellB hSw e1 zG; have e2 := cellB hSw e2 zG; have e3 := cellB hSw e3 zG; have e4 := cellB hSw e4 zG; have e5 := cellB hSw e5 zG; have e6 := cellB hSw e6 zG; have k0 := cellB hSw k0 zc; have k1 := cellB hSw k1 zc; have k2 := cellB hSw k2 zc; have s0 := cellB hSw s0 zS; first | (go_simp; done) | (go_simp; with_reducible rfl) | (trace_state; fail)
  try simp only [Act.put, List.setIfInBounds_toArray, List.set_cons_zero, List.set_cons_succ]
  refine wpAnyH_take (i := 26) (oi := { dst := some 6, op := Op.assign (Operand.tmp 38), type := 35, pos := _, after := #[{ on := 24, ground := Ground.data }, { on := 22, ground := Ground.chain }, { on := 0, ground := Ground.phase }, { on := 1, ground := Ground.phase }, { on := 2, ground := Ground.phase }, { on := 3, ground := Ground.phase }, { on := 4, ground := Ground.phase }, { on := 5, ground := Ground.phase }, { on := 6, ground := Ground.phase }, { on := 7, ground := Ground.phase }, { on := 8, ground := Ground.phase }, { on := 9, ground := Ground.phase }, { on := 10, ground := Ground.phase }, { on := 11, ground := Ground.phase }, { on := 12, ground := Ground.phase }, { on := 13, ground := Ground.phase }, { on := 14, ground := Ground.phase }, { on := 15, ground := Ground.phase }, { on := 16, ground := Ground.phase }, { on := 17, ground := Ground.phase }, { on := 18, ground := Ground.phase }, { on := 19, ground := Ground.phase }, { on := 20, ground := Ground.phase }, { on := 21, ground := Ground.phase }, { on := 22, ground := Ground.phase }, { on := 23, ground := Ground.phase }, { on := 24, ground := Ground.phase }, { on := 25, ground := Ground.textOnly Departure.lateStores }], guard := none }) (v := ?_) rfl (by kernel_rfl) (by kernel_rfl) (by kernel_rfl) (fun _ _ _ h => h) (Or.inl ⟨by rfl, ?_⟩) (by assumption) ?_
  rotate_left
  · intro wt hSw; (try dsimp only at hSw); have eb := cellB hSw eb zb; have e0 := cellB hSw e0 zG; have e1 := cellB hSw e1 zG; have e2 := cellB hSw e2 zG; have e3 := cellB hSw e3 zG; have e4 := cellB hSw e4 zG; have e5 := cellB hSw e5 zG; have e6 := cellB hSw e6 zG; have k0 := cellB hSw k0 zc; have k1 := cellB hSw k1 zc; have k2 := cellB hSw k2 zc; have s0 := cellB hSw s0 zS; first | (go_simp; done) | (go_simp; with_reducible rfl) | (trace_state; fail)
  try simp only [Act.put, List.setIfInBounds_toArray, List.set_cons_zero, List.set_cons_succ]
  refine wpAnyH_take (i := 27) (oi := { dst := some 7, op := Op.assign (Operand.tmp 39), type := 30, pos := _, after := #[{ on := 25, ground := Ground.data }, { on := 26, ground := Ground.chain }, { on := 0, ground := Ground.phase }, { on := 1, ground := Ground.phase }, { on := 2, ground := Ground.phase }, { on := 3, ground := Ground.phase }, { on := 4, ground := Ground.phase }, { on := 5, ground := Ground.phase }, { on := 6, ground := Ground.phase }, { on := 7, ground := Ground.phase }, { on := 8, ground := Ground.phase }, { on := 9, ground := Ground.phase }, { on := 10, ground := Ground.phase }, { on := 11, ground := Ground.phase }, { on := 12, ground := Ground.phase }, { on := 13, ground := Ground.phase }, { on := 14, ground := Ground.phase }, { on := 15, ground := Ground.phase }, { on := 16, ground := Ground.phase }, { on := 17, ground := Ground.phase }, { on := 18, ground := Ground.phase }, { on := 19, ground := Ground.phase }, { on := 20, ground := Ground.phase }, { on := 21, ground := Ground.phase }, { on := 22, ground := Ground.phase }, { on := 23, ground := Ground.phase }, { on := 24, ground := Ground.phase }, { on := 25, ground := Ground.phase }, { on := 26, ground := Ground.phase }], guard := none }) (v := ?_) rfl (by kernel_rfl) (by kernel_rfl) (by kernel_rfl) (fun _ _ _ h => h) (Or.inl ⟨by rfl, ?_⟩) (by assumption) ?_
  rotate_left
  · intro wt hSw; (try dsimp only at hSw); have eb := cellB hSw eb zb; have e0 := cellB hSw e0 zG; have e1 := cellB hSw e1 zG; have e2 := cellB hSw e2 zG; have e3 := cellB hSw e3 zG; have e4 := cellB hSw e4 zG; have e5 := cellB hSw e5 zG; have e6 := cellB hSw e6 zG; have k0 := cellB hSw k0 zc; have k1 := cellB hSw k1 zc; have k2 := cellB hSw k2 zc; have s0 := cellB hSw s0 zS; first | (go_simp; done) | (go_simp; with_reducible rfl) | (trace_state; fail)
  try simp only [Act.put, List.setIfInBounds_toArray, List.set_cons_zero, List.set_cons_succ]
  refine wpAnyH_done (by kernel_rfl) ?_ _
  obtain ⟨ra, rc, rfl⟩ := row_get Hr.out
  by_cases hE : E1 = 0
  case neg =>
    have q2 : (E1 != 0) = true := by simpa using hE
    have HR := Lib.hid (show Z = (E1, s) by rw [HZv.out, if_pos hE])
    clear hE eb e0 e1 e2 e3 e4 e5 e6 k0 k1 k2 s0 HBh HStp
    generalize ST.length = nst at *
    go_wp2_with fail
    go_ret
    exact ⟨by rw [HR.out]; rfl, vQ, U, by rw [HR.out]; exact HK1.out.below HHv.out, (HbW.out.trans (HHv.out.mono Hsz.out)).mono HLow.out⟩
  subst hE
  have HZ2 := Lib.hid (show Z = if ¬ (∀ z ∈ BL, TY.inB n z) then (11, s) else TY.goF ST BL s by rw [HZv.out, if_neg (by simp)])
  have e5v := cellB HHv.out e5 zG
  have ebv := cellB HHv.out eb zb
  clear eb e0 e1 e2 e3 e4 e5 e6 k0 k1 k2 s0 HStp HZv
  obtain ⟨nst, hnst⟩ : ∃ m, ST.length = m := ⟨_, rfl⟩
  have HNst := Lib.hid hnst
  rw [hnst]
  clear hnst
  go_wp2_with fail
  refine (HBh.out _ HHv.out).mono ?_; rintro e v2 ⟨rb, rfl, hrb, hb2, hnb⟩
  have HnwB := Lib.hid (hnb.low (w := w) (Nat.le_trans Hsz.out HHv.out.size))
  have HH2 := Lib.hid (HHv.out.trans (hb2.mono HHv.out.size))
  have Hr2 := Lib.hid (Hr.out.below intR_stable hb2)
  have Hrb := Lib.hid hrb
  have e5 := cellB hb2 e5v (World.block_lt_of_cell? v1 _ e5v)
  have eb := cellB hb2 ebv (World.block_lt_of_cell? v1 _ ebv)
  obtain ⟨ba, bd, rfl⟩ := row_get hrb
  obtain ⟨m, hm⟩ : ∃ m, BL.length = m := ⟨_, rfl⟩
  have HM := Lib.hid hm
  have hm70 : m ≤ 70000 := by rw [← hm]; exact Hbl.out
  rw [hm]
  clear e5v ebv hrb hb2 hnb hm HBh
  go_wp2_with fail
  go_loopw [10, 51] (fun _ jj wr => ∃ k : Nat, k ≤ m ∧ jj = .int .i64 k ∧ Hid (∀ z ∈ BL.take k, TY.inB n z) ∧ wr = v2) (fun _ jj _ => m - (intOf jj).toNat)
  case atStart => exact ⟨0, Nat.zero_le _, rfl, Lib.hid (by simp), rfl⟩
  case round =>
    obtain ⟨k, hk, rfl, hT, hwr⟩ := hrel
    subst hwr
    rename World => v2
    by_cases hlt : k < m
    case pos =>
      have q1 : ((k : Int) < (m : Int)) = True := eq_true (by omega)
      have q1' : (k < m) = True := eq_true hlt
      have hk62 : k ≤ 9223372036854775806 := by omega
      have HK := Lib.hid hlt
      obtain ⟨z, hz⟩ := get_some (L := BL) (n := k) (by rw [HM.out]; exact hlt)
      obtain ⟨g, o1, rfl, _, _, _, c0, hzI⟩ := int_at (by have h := Hrb.out; rwa [HM.out] at h) (k := k) (by rw [HM.out]; exact hlt)
      rw [show BL.getD k 0 = z by simp [List.getD, hz]] at c0 hzI
      have HTk := Lib.hid (take_snoc hz)
      have HCall := Lib.hid (visit_there z hzI w.heap.size G n (some ⟨bc, oc, none⟩) cc v2 eb e5)
      have HMm := Lib.hid (List.mem_of_getElem? hz)
      by_cases hin : TY.inB n z
      · have HR := Lib.hid (show ∀ y ∈ BL.take (k + 1), TY.inB n y by
          rw [HTk.out]
          intro y hy
          rcases List.mem_append.1 hy with hy | hy
          · exact hT.out y hy
          · rw [List.mem_singleton] at hy
            rw [hy]
            exact hin)
        have hd : decide (TY.inB n z) = true := decide_eq_true hin
        rw [hd] at HCall
        clear hin hd hT hz hlt hk hzI
        go_wp2_with fail
        refine HCall.out.mono ?_; rintro e w3 ⟨rfl, rfl⟩
        go_wp2_with fail
        go_roundw
        case rel => exact ⟨k + 1, by have := HK.out; omega, by simp, HR, by first | trivial | rfl⟩
        case measure => have := HK.out; first | (simp [intOf]; done) | (simp [intOf]; omega)
      · have hd : decide (TY.inB n z) = false := decide_eq_false hin
        have HR := Lib.hid (show Z = (11, s) by rw [HZ2.out, if_pos (fun h => hin (h z HMm.out))])
        rw [hd] at HCall
        clear hin hd hT hz hlt hk hzI
        go_wp2_with fail
        refine HCall.out.mono ?_; rintro e w3 ⟨rfl, rfl⟩
        go_wp2_with fail
        go_ret
        exact ⟨by rw [HR.out]; rfl, vQ, U, by rw [HR.out]; exact HK1.out.below HH2.out, (HbW.out.trans (HH2.out.mono Hsz.out)).mono HLow.out⟩
    obtain rfl : m = k := by omega
    have q1 : ((m : Int) < (m : Int)) = False := eq_false (by omega)
    have q1' : (m < m) = False := eq_false (by omega)
    have HAll := Lib.hid (show ∀ z ∈ BL, TY.inB n z by have h := hT.out; rwa [List.take_of_length_le (by rw [HM.out]; exact Nat.le_refl _)] at h)
    have HZ3 := Lib.hid (show TY.goF ST (BL.drop 0) s = Z by rw [HZ2.out, if_neg (fun h => h HAll.out)]; rfl)
    have HV2 := Lib.hid (HK1.out.below HH2.out)
    have Hbox := Lib.hid (obj_below Hbx.out HH2.out (heap_lt Hbx.out))
    have HB2 := Lib.hid (HbW.out.trans (HH2.out.mono Hsz.out))
    have HszM := Lib.hid (show w.heap.size < v2.heap.size from Nat.lt_of_lt_of_le zb HH2.out.size)
    clear hT hlt hk e5 eb HZ2
    go_wp2_with fail
    go_loopw [12, 62] (fun _ jj wr => ∃ (k : Nat) (t : WS) (vq : Value) (Ut : List Value), k ≤ m ∧ jj = .int .i64 k ∧ Hid (WAt B G gS gR n ⟨cv, pv, bv, uv, .int .i64 u, .slice (some ⟨bc, oc, none⟩) L.length cc⟩ vq Ut t wr) ∧ Hid (TY.goF ST (BL.drop k) t = Z ∧ TY.Fit n t) ∧ Hid ((∀ g, vq.ownBlock = some g → g < w.heap.size ∨ v2.heap.size ≤ g) ∧ (∀ i, w.heap.size ≤ i → i < v2.heap.size → wr.heap[i]? = v2.heap[i]?) ∧ v2.heap.size ≤ wr.heap.size ∧ Below B w wr)) (fun _ jj _ => m - (intOf jj).toNat)
    case atStart => exact ⟨0, s, vQ, U, Nat.zero_le _, rfl, HV2, Lib.hid ⟨HZ3.out, HF.out⟩, Lib.hid ⟨fun g hg => Or.inl (HVq.out g hg), fun _ _ _ => rfl, Nat.le_refl _, HB2.out.mono HLow.out⟩⟩
    case round =>
      obtain ⟨k, t, vq, Ut, hk, rfl, hW, hG, hI⟩ := hrel
      rename World => wr
      have HI := hI
      have HW := hW
      have HGo := hG
      by_cases hlt : k < m
      case neg =>
        obtain rfl : m = k := by omega
        have q1 : ((m : Int) < (m : Int)) = False := eq_false (by omega)
        have q1' : (m < m) = False := eq_false (by omega)
        have HR := Lib.hid (show Z = (0, t) by rw [← hG.out.1, List.drop_eq_nil_iff.2 (by rw [HM.out]; exact Nat.le_refl _)]; rfl)
        clear hW hG hI hlt hk
        go_wp2_with fail
        go_ret
        exact ⟨by rw [HR.out]; rfl, vq, Ut, by rw [HR.out]; exact HW.out, HI.out.2.2.2⟩
      have q1 : ((k : Int) < (m : Int)) = True := eq_true (by omega)
      have q1' : (k < m) = True := eq_true hlt
      have hk62 : k ≤ 9223372036854775806 := by omega
      have HK := Lib.hid hlt
      obtain ⟨z, hz⟩ := get_some (L := BL) (n := k) (by rw [HM.out]; exact hlt)
      have hin := HAll.out z (List.mem_of_getElem? hz)
      obtain ⟨zn, rfl⟩ : ∃ zn : Nat, z = (zn : Int) := ⟨z.toNat, by unfold TY.inB at hin; omega⟩
      have hzn : zn < n := by unfold TY.inB at hin; omega
      have hrb := row_range Hrb.out HnwB.out HI.out.2.1 HI.out.2.2.1
      have HSt := Lib.hid (row_range Hr2.out HnwW.out HI.out.2.1 HI.out.2.2.1)
      rw [HM.out] at hrb
      rw [HNst.out] at HSt
      obtain ⟨g, o1, rfl, _, _, _, c0, hzI⟩ := int_at hrb (k := k) (by rw [HM.out]; exact hlt)
      rw [show BL.getD k 0 = (zn : Int) by simp [List.getD, hz]] at c0 hzI
      have hbx := obj_cell (i := 0) ((HI.out.2.1 w.heap.size (Nat.le_refl _) HszM.out).trans Hbox.out) rfl
      have eb : wr.cell? ⟨w.heap.size, 0, none⟩ = some (.pointer (some ⟨G, 0, none⟩)) := hbx
      have e6 : wr.cell? ⟨G, 6, none⟩ = some (.slice (some ⟨gS, 0, none⟩) n n) := obj_cell HW.out.obj rfl
      have e7 : wr.cell? ⟨G, 7, none⟩ = some (.slice (some ⟨gR, 0, none⟩) n n) := obj_cell HW.out.obj rfl
      obtain ⟨m1, m2, m3⟩ := HW.out.len
      obtain ⟨uz, huz⟩ := get_some (L := Ut) (n := zn) (by omega)
      obtain ⟨tz, htz, hrz⟩ := row_of HW.out.rows huz
      obtain ⟨rz, hrez⟩ := get_some (L := t.reached) (n := zn) (by omega)
      have s0 : wr.cell? ⟨gS, zn, none⟩ = some uz := (HW.out.st.cellAt zn (by omega)).trans huz
      have r0 : wr.cell? ⟨gR, zn, none⟩ = some (.bool rz) := (HW.out.re.cellAt zn (by omega)).trans (by unfold bV1; rw [List.getElem?_map, hrez]; rfl)
      have hfz := HW.out.fit tz (List.mem_of_getElem? htz)
      have HRow := Lib.hid (row_of_owns hrz hfz.2)
      have HGs2 := Lib.hid (show (if t.reached.getD zn false = false then TY.goF ST (BL.drop (k + 1)) (reachF zn ST t) else if ¬ (t.stacks.getD zn []).length = ST.length then (9, t) else if ¬ t.stacks.getD zn [] = ST then (10, t) else TY.goF ST (BL.drop (k + 1)) t) = Z by
        have h := hG.out.1
        rw [List.drop_eq_getElem_cons (by rw [HM.out]; exact hlt), show BL[k]'(by rw [HM.out]; exact hlt) = (zn : Int) from by rw [List.getElem?_eq_getElem (by rw [HM.out]; exact hlt)] at hz; exact Option.some.inj hz] at h
        exact h)
      have hg1 : t.reached.getD zn false = rz := by simp [List.getD, hrez]
      have hg2 : t.stacks.getD zn [] = tz := by simp [List.getD, htz]
      rw [hg1, hg2] at HGs2
      have HZn := Lib.hid (And.intro hzn hg1)
      have z1 : ((zn : Int) < (n : Int)) = True := eq_true (by omega)
      have z1' : (zn < n) = True := eq_true hzn
      have HBge := Lib.hid (show B ≤ G ∧ B ≤ gS ∧ B ≤ gR ∧ (∀ g, vq.ownBlock = some g → B ≤ g) from ⟨HW.out.hB, (owns_lt HW.out.st rfl).1, (owns_lt HW.out.re rfl).1, fun g hg => (owns_lt HW.out.qu hg).1⟩)
      cases rz
      case false =>
        have HZ4 := Lib.hid (show TY.goF ST (BL.drop (k + 1)) (reachF zn ST t) = Z by have h := HGs2.out; rwa [if_pos rfl] at h)
        have HF2 := Lib.hid (TY.reach_fit hG.out.2 hzn ST hg1).1
        have HCa := Lib.hid (walk_reach HW.out zn hzn (by have := HN.out.1; omega) (.slice ra nst rc) ST HSt.out Hsl.out (by have := hG.out.2.cnt; have := HN.out.1; omega) (fun y hy => by have := hG.out.2.wl y hy; have := HN.out.1; omega))
        clear hW hG hI hlt hk hz hin hzn hrb m1 m2 m3 huz htz hrz hrez hfz hg1 hg2 hzI hbx HGs2
        go_wp2_with fail
        refine HCa.out.mono ?_; rintro e w3 ⟨rfl, vq3, U3, hW3, hF3, hN3⟩
        have HR3 := Lib.hid hW3
        have HI3 := Lib.hid (show (∀ g, vq3.ownBlock = some g → g < w.heap.size ∨ v2.heap.size ≤ g) ∧ (∀ i, w.heap.size ≤ i → i < v2.heap.size → w3.heap[i]? = v2.heap[i]?) ∧ v2.heap.size ≤ w3.heap.size ∧ Below B w w3 from by
          have I := HI.out
          have b := HGs.out
          refine ⟨fun g hg => ?_, fun i h1 h2 => ?_, Nat.le_trans I.2.2.1 hF3.size, I.2.2.2.trans (hF3.below (fun i hi => ?_) (Nat.le_trans HLow.out I.2.2.2.size))⟩
          · rcases hN3 with h | ⟨g2, h, h2⟩
            · rw [h] at hg; exact I.1 g hg
            · rw [h] at hg
              injection hg with hg
              have := I.2.2.1
              omega
          · refine (hF3.block i (Nat.lt_of_lt_of_le h2 I.2.2.1) ?_).trans (I.2.1 i h1 h2)
            rintro (e | e | e | e)
            · omega
            · omega
            · omega
            · have := I.1 i e
              omega
          · have q := HBge.out
            rcases hi with e | e | e | e
            · omega
            · omega
            · omega
            · exact q.2.2.2 i e)
        clear hW3 hF3 hN3
        go_wp2_with fail
        go_roundw
        case rel => exact ⟨k + 1, reachF zn ST t, vq3, U3, by have := HK.out; omega, by simp, HR3, Lib.hid ⟨HZ4.out, HF2.out⟩, HI3⟩
        case measure => have := HK.out; first | (simp [intOf]; done) | (simp [intOf]; omega)
      obtain ⟨au, cu, rfl⟩ := row_get HRow.out
      by_cases hlen : tz.length = ST.length
      case neg =>
        have HR := Lib.hid (show Z = (9, t) by have h := HGs2.out; rw [if_neg (by simp), if_pos hlen] at h; exact h.symm)
        have q3 : ((tz.length : Int) != (nst : Int)) = true := by rw [HNst.out] at hlen; simp; omega
        clear hW hG hI hlt hk hz hin hzn hrb m1 m2 m3 huz htz hrz hrez hfz hg1 hg2 hzI hbx HGs2 hlen
        generalize tz.length = ntz at *
        go_wp2_with fail
        go_ret
        exact ⟨by rw [HR.out]; rfl, vq, Ut, by rw [HR.out]; exact HW.out, HI.out.2.2.2⟩
      have hlen2 : tz.length = nst := hlen.trans HNst.out
      have HEq := Lib.hid (slices_Equal (.slice au tz.length cu) (.slice ra nst rc) tz ST wr HRow.out HSt.out (by have := hfz.1; omega) hlen.symm)
      rw [hlen2] at HEq s0
      have q3 : ((nst : Int) != (nst : Int)) = false := by simp
      by_cases heq : tz = ST
      · have HZ4 := Lib.hid (show TY.goF ST (BL.drop (k + 1)) t = Z by have h := HGs2.out; rwa [if_neg (by simp), if_neg (fun h => h hlen), if_neg (fun h => h heq)] at h)
        have hd : decide (tz = ST) = true := decide_eq_true heq
        rw [hd] at HEq
        clear hW hG hI hlt hk hz hin hzn hrb m1 m2 m3 huz htz hrz hrez hfz hg1 hg2 hzI hbx HGs2 hlen hlen2 heq hd
        go_wp2_with fail
        refine HEq.out.mono ?_; rintro e w3 ⟨rfl, dk, rfl⟩
        have hb3 := Below_drewN wr.heap.size wr dk
        have HR3 := Lib.hid (HW.out.below hb3)
        have HI3 := Lib.hid (show (∀ g, vq.ownBlock = some g → g < w.heap.size ∨ v2.heap.size ≤ g) ∧ (∀ i, w.heap.size ≤ i → i < v2.heap.size → (wr.drewN dk).heap[i]? = v2.heap[i]?) ∧ v2.heap.size ≤ (wr.drewN dk).heap.size ∧ Below B w (wr.drewN dk) from
          ⟨HI.out.1, fun i h1 h2 => (hb3.block i (Nat.lt_of_lt_of_le h2 HI.out.2.2.1)).trans (HI.out.2.1 i h1 h2), Nat.le_trans HI.out.2.2.1 hb3.size, HI.out.2.2.2.trans (hb3.mono (Nat.le_trans HLow.out HI.out.2.2.2.size))⟩)
        clear hb3
        go_wp2_with fail
        go_roundw
        case rel => exact ⟨k + 1, t, vq, Ut, by have := HK.out; omega, by simp, HR3, Lib.hid ⟨HZ4.out, HGo.out.2⟩, HI3⟩
        case measure => have := HK.out; first | (simp [intOf]; done) | (simp [intOf]; omega)
      · have HR := Lib.hid (show Z = (10, t) by have h := HGs2.out; rw [if_neg (by simp), if_neg (fun h => h hlen), if_pos heq] at h; exact h.symm)
        have hd : decide (tz = ST) = false := decide_eq_false heq
        rw [hd] at HEq
        clear hW hG hI hlt hk hz hin hzn hrb m1 m2 m3 huz htz hrz hrez hfz hg1 hg2 hzI hbx HGs2 hlen hlen2 heq hd
        go_wp2_with fail
        refine HEq.out.mono ?_; rintro e w3 ⟨rfl, dk, rfl⟩
        have hb3 := Below_drewN wr.heap.size wr dk
        have HR3 := Lib.hid (HW.out.below hb3)
        have HB3 := Lib.hid (HI.out.2.2.2.trans (hb3.mono (Nat.le_trans HLow.out HI.out.2.2.2.size)))
        clear hb3
        go_wp2_with fail
        go_ret
        exact ⟨by rw [HR.out]; rfl, vq, Ut, by rw [HR.out]; exact HR3.out, HB3.out⟩
end Go.Proofs.YtefejcofmopjfaaGreatDoor

/- Layer 20: typing.Entries. -/
namespace Go.Proofs.YtefejcofmopjfaaGreatDoor
open Go.RowKit
set_option linter.unusedSimpArgs false
set_option linter.unusedVariables false
theorem firstP_zero {f : Nat → Int} {n : Nat} (h : (firstP f n).2 = 0) : ∀ j, j < n → f j = 0 := by
  intro j hj
  apply Classical.byContradiction
  intro hne
  obtain ⟨k, hk, hk2, hk3⟩ : ∃ k, k < n ∧ (∀ i, i < k → f i = 0) ∧ f k ≠ 0 := by
    have : ∀ m, (∃ j, j < m ∧ f j ≠ 0) → ∃ k, k < m ∧ (∀ i, i < k → f i = 0) ∧ f k ≠ 0 := by
      intro m
      induction m with
      | zero => rintro ⟨j, h, _⟩; omega
      | succ m ih =>
        rintro ⟨j, h, h2⟩
        by_cases he : ∃ j, j < m ∧ f j ≠ 0
        · obtain ⟨k, a, b, c⟩ := ih he
          exact ⟨k, by omega, b, c⟩
        · refine ⟨m, by omega, fun i hi => Classical.byContradiction fun x => he ⟨i, hi, x⟩, ?_⟩
          obtain rfl : j = m := by
            by_cases hjm : j < m
            · exact absurd ⟨j, hjm, h2⟩ he
            · omega
          exact h2
    exact this n ⟨j, hj, hne⟩
  rw [firstP_hit hk hk2 hk3] at h
  exact hk3 h
theorem chk_ok {p : Pr} {u : Int} (h : (chkP p u).2 = 0) : (0 ≤ u ∧ u < p.units.length) ∧ OkL (unAt p u).code := by
  by_cases hu : 0 ≤ u ∧ u < p.units.length
  · refine ⟨hu, fun k x hx => ?_⟩
    rw [chkP_is hu] at h
    have he := firstP_zero h k (lt_of_get hx)
    by_cases h1 : oneP p u x.1 x.2.1 x.2.2 = 0
    · rw [errAt_jump hx h1] at he
      have hr : oRight x.1 x.2.1 x.2.2 = true := by
        unfold oneP at h1
        split at h1
        · omega
        · split at h1
          · omega
          · rename_i h2; simpa using h2
      have hp := oRight_pos hr
      have hf : 0 ≤ x.2.1 ∧ x.2.1 ≤ 65535 := by
        have h4 := hp.2.2.2.1
        unfold oFit at h4
        split at h4
        · have : x.2.1 = 0 := by simpa using h4
          omega
        · exact of_decide_eq_true h4
      refine ⟨hf, fun h32 => ?_⟩
      rw [h32, jumpP_s] at he
      split at he
      · omega
      · cases he
    · exact absurd ((errAt_one hx h1).symm.trans he) h1
  · rw [chkP_u hu] at h
    cases h
theorem start_wat {B G gS gR n : Nat} {h : Hd} {w : World} (hS : w.heap[gS]? = some (.cells (madeCells (Value.slice none 0 0).cells n) 35 (0, 0))) (hR : w.heap[gR]? = some (.cells (madeCells (Value.bool false).cells n) 4 (0, 0))) (hG : w.heap[G]? = some (.cells (walkA h gS gR n (.slice none 0 0)) 112 (0, 0))) (hB : B ≤ G ∧ B ≤ gS ∧ B ≤ gR) (hn : n ≤ 300) : WAt B G gS gR n h (.slice none 0 0) (List.replicate n (.slice none 0 0)) ⟨List.replicate n [], List.replicate n false, []⟩ w := by
  rw [madeS] at hS
  rw [made_false] at hR
  have hlt := heap_lt hG
  refine ⟨hG, hB.1, ⟨by simp, Or.inr ⟨gS, n, _, rfl, hB.2.1, hS, Nat.le_refl _, by unfold maxLen; omega, by simp, by simp⟩⟩, OwnRows.blank B 3 w n, ⟨by simp [bV1], Or.inr ⟨gR, n, _, rfl, hB.2.2, hR, Nat.le_refl _, by unfold maxLen; omega, by simp [bV1], by simp [bV1]⟩⟩, World.ownsRow_nil _ _ _ _, fun k u g hu hg => by simp [Value.ownBlock], by omega, fun st hst => ?_⟩
  obtain ⟨_, rfl⟩ := List.mem_replicate.1 hst
  simp
theorem ent_wat {B n : Nat} {w1 W5 : World} {a b c d e f : Value} {MS MR : Array Value}
    (h : (((w1.alloc (.cells MS 35)).alloc (.cells MR 4)).alloc (.cells #[a, b, c, d, e, f, .slice (some ⟨w1.heap.size, 0, none⟩) n n, .slice (some ⟨w1.heap.size + 1, 0, none⟩) n n, .slice none 0 0] 112)).drew = W5 ∨
      (((w1.alloc (.cells MR 4)).alloc (.cells MS 35)).alloc (.cells #[a, b, c, d, e, f, .slice (some ⟨w1.heap.size + 1, 0, none⟩) n n, .slice (some ⟨w1.heap.size, 0, none⟩) n n, .slice none 0 0] 112)).drew = W5)
    (hM : madeCells (Value.slice none 0 0).cells n = MS ∧ madeCells (Value.bool false).cells n = MR) (hB : B ≤ w1.heap.size) (hn : n ≤ 300) :
    ∃ gS gR, WAt B (w1.heap.size + 1 + 1) gS gR n ⟨a, b, c, d, e, f⟩ (.slice none 0 0) (List.replicate n (.slice none 0 0)) ⟨List.replicate n [], List.replicate n false, []⟩ W5 ∧ Below w1.heap.size w1 W5 := by
  obtain ⟨rfl, rfl⟩ := hM
  have get3 : ∀ (A C D : Obj), (((w1.alloc A).alloc C).alloc D).drew.heap[w1.heap.size]? = some A ∧ (((w1.alloc A).alloc C).alloc D).drew.heap[w1.heap.size + 1]? = some C ∧ (((w1.alloc A).alloc C).alloc D).drew.heap[w1.heap.size + 1 + 1]? = some D := fun A C D => by
    have s1 : (w1.alloc A).heap.size = w1.heap.size + 1 := by simp
    have s2 : ((w1.alloc A).alloc C).heap.size = w1.heap.size + 1 + 1 := by simp
    refine ⟨?_, ?_, ?_⟩
    · show (((w1.alloc A).alloc C).alloc D).heap[w1.heap.size]? = _
      rw [get_past (by rw [s2]; omega), get_past (by rw [s1]; omega)]
      exact get_last rfl
    · show (((w1.alloc A).alloc C).alloc D).heap[w1.heap.size + 1]? = _
      rw [get_past (by rw [s2]; omega)]
      exact get_last s1.symm
    · exact get_last s2.symm
  have hb : ∀ (A C D : Obj), Below w1.heap.size w1 (((w1.alloc A).alloc C).alloc D).drew := fun A C D => ((((Below.refl _ _).alloc (Nat.le_refl _) A).alloc (by simp) C).alloc (by simp; omega) D).drew
  rcases h with rfl | rfl
  · obtain ⟨g1, g2, g3⟩ := get3 _ _ _
    exact ⟨w1.heap.size, w1.heap.size + 1, start_wat g1 g2 g3 ⟨by omega, by omega, by omega⟩ hn, hb _ _ _⟩
  · obtain ⟨g1, g2, g3⟩ := get3 _ _ _
    exact ⟨w1.heap.size + 1, w1.heap.size, start_wat g2 g1 g3 ⟨by omega, by omega, by omega⟩ hn, hb _ _ _⟩
/-- what Entries tells -/
def EntQ (p : Pr) (u : Int) (w : World) (e : Ending) (w' : World) : Prop := Below w.heap.size w w' ∧
  (((chkP p u).2 ≠ 0 ∧ e = .returned (.tuple #[.slice none 0 0, .slice none 0 0, .int .i64 (chkP p u).1, .int .i64 (chkP p u).2])) ∨
   ((chkP p u).2 = 0 ∧ ∃ r, TY.entF (tyE p u (unAt p u).code) ((unAt p u).code.length + 1) (TY.start (unAt p u).code.length) = some r ∧
     ((r.2.1 ≠ 0 ∧ e = .returned (.tuple #[.slice none 0 0, .slice none 0 0, .int .i64 r.1, .int .i64 r.2.1])) ∨
      (r.2.1 = 0 ∧ ∃ vS vR, e = .returned (.tuple #[vS, vR, .int .i64 0, .int .i64 0]) ∧ RowR 1 gridR w' vS r.2.2.stacks ∧ RowR 1 boolR w' vR r.2.2.reached ∧ ∀ st ∈ r.2.2.stacks, st.length ≤ 32))))
set_option maxRecDepth 100000 in
set_option maxHeartbeats 4000000 in
theorem typing_Entries (cv pv bv uv : Value) (p : Pr) (u : Int) (w : World) (hP : PrAt w cv pv bv uv p) (hT : TabR w) (hBt : BTab w) (hf : wideP p = true) :
    Calls Tryz.prog 36 #[.agg #[cv, pv, bv, uv], .int .i64 u] w (EntQ p u w) := by
  have HCh := Lib.hid (fun W (hb : Below w.heap.size w W) => refs_Check cv pv bv uv p u W (hP.below hb) (hT.below hb) hf)
  obtain ⟨W1, hW1⟩ : ∃ W1, W1 = w.alloc (.cells #[cv, pv, bv, uv] 27) := ⟨_, rfl⟩
  have hb1 : Below w.heap.size w W1 := by rw [hW1]; exact (Below.refl _ _).alloc (Nat.le_refl _) _
  have hbx : W1.heap[w.heap.size]? = some (.cells #[cv, pv, bv, uv] 27 (0, 0)) := by rw [hW1]; exact get_last rfl
  have HW1 := Lib.hid hW1
  have Hb1 := Lib.hid hb1
  have Hbx := Lib.hid hbx
  by_cases hchk : (chkP p u).2 = 0
  case neg =>
    have HQ := Lib.hid (fun w' (hb : Below w.heap.size w w') => (show EntQ p u w (.returned (.tuple #[.slice none 0 0, .slice none 0 0, .int .i64 (chkP p u).1, .int .i64 (chkP p u).2])) w' from ⟨hb, Or.inl ⟨hchk, rfl⟩⟩))
    have hqq : ((chkP p u).2 != 0) = true := by simpa using hchk
    generalize (chkP p u).1 = c1 at *
    generalize (chkP p u).2 = c2 at *
    clear hP hT hBt hW1 hb1 hbx hchk
    go_enter Tryz.func36, Tryz.ntmps36
    go_wp2_with fail
    rw [← HW1.out]
    refine (HCh.out _ Hb1.out).mono ?_; rintro e w1 ⟨rfl, hb2⟩
    have HB2 := Lib.hid (Hb1.out.trans (hb2.mono Hb1.out.size))
    clear hb2
    go_wp2_with fail
    go_returns
    exact HQ.out _ HB2.out
  obtain ⟨hu, hOk⟩ := chk_ok hchk
  obtain ⟨i, rfl⟩ := Int.eq_ofNat_of_zero_le hu.1
  obtain ⟨y, hy⟩ := get_some (L := p.units) (n := i) (by omega)
  have huy : unAt p i = y := by unfold unAt; simp [List.getD, hy]
  have hy300 := (fewU_is ((wideP_is hf).2.2.2 y (List.mem_of_getElem? hy))).2.2.2
  have hPs := hP
  obtain ⟨s3, t3, rfl⟩ := row_get hP.us
  obtain ⟨b3, off3, rfl, hbw3, hc3⟩ := unit_at hP.us (k := i) (lt_of_get hy)
  obtain ⟨u1, u3, u4, c0, c1, c2, c3, c4, hU⟩ := hc3 i y hy
  have hcode := hU.cs
  obtain ⟨sc, tc, rfl⟩ := row_get hcode
  rw [huy] at hOk
  obtain ⟨i2, hi2, hz2, hsize2, hby2⟩ : ∃ i, Tryz.prog.info? 35 = some i ∧ i.zero = some (.slice none 0 0) ∧ i.size = 1 ∧ i.bytes = 24 := ⟨(Tryz.prog.info? 35).get!, by kernel_rfl, by kernel_rfl, by kernel_rfl, by kernel_rfl⟩
  obtain ⟨i3, hi3, hz3, hsize3, hby3⟩ : ∃ i, Tryz.prog.info? 4 = some i ∧ i.zero = some (.bool false) ∧ i.size = 1 ∧ i.bytes = 1 := ⟨(Tryz.prog.info? 4).get!, by kernel_rfl, by kernel_rfl, by kernel_rfl, by kernel_rfl⟩
  have hmS := fun W => run_make W 54 35 i2 _ Tryz.underlying54 hi2 hz2 .i64 .i64 ((y.code.length : Nat) : Int) ((y.code.length : Nat) : Int) (by omega) (by omega) (by rw [hby2]; omega) (by omega)
  rw [hsize2, Nat.mul_one, Int.toNat_natCast] at hmS
  have hmR := fun W => run_make W 55 4 i3 _ Tryz.underlying55 hi3 hz3 .i64 .i64 ((y.code.length : Nat) : Int) ((y.code.length : Nat) : Int) (by omega) (by omega) (by rw [hby3]; omega) (by omega)
  rw [hsize3, Nat.mul_one, Int.toNat_natCast] at hmR
  obtain ⟨n, hn⟩ : ∃ n, y.code.length = n := ⟨_, rfl⟩
  have HN := Lib.hid hn
  have HCo := Lib.hid hcode
  have HOk := Lib.hid hOk
  have HUy := Lib.hid huy
  have HP := Lib.hid hPs
  have HT := Lib.hid (And.intro hT hBt)
  have c4 := cellB hb1 c4 hbw3
  have zb3 : b3 < W1.heap.size := Nat.lt_of_lt_of_le hbw3 hb1.size
  have e0 : W1.cell? ⟨w.heap.size, 0, none⟩ = some cv := obj_cell hbx rfl
  have e1 : W1.cell? ⟨w.heap.size, 1, none⟩ = some pv := obj_cell hbx rfl
  have e2 : W1.cell? ⟨w.heap.size, 2, none⟩ = some bv := obj_cell hbx rfl
  have e3 : W1.cell? ⟨w.heap.size, 3, none⟩ = some (.slice (some ⟨b3, off3, none⟩) p.units.length t3) := obj_cell hbx rfl
  have zb : w.heap.size < W1.heap.size := heap_lt hbx
  obtain ⟨MS, hMS⟩ : ∃ Z, madeCells (Value.slice none 0 0).cells y.code.length = Z := ⟨_, rfl⟩
  obtain ⟨MR, hMR⟩ : ∃ Z, madeCells (Value.bool false).cells y.code.length = Z := ⟨_, rfl⟩
  have HMS := Lib.hid (And.intro hMS hMR)
  rw [hMS] at hmS
  rw [hMR] at hmR
  have q1 : ((i : Int) < (p.units.length : Int)) = True := eq_true hu.2
  have q1' : (i < p.units.length) = True := eq_true (by omega)
  rw [hn] at hmS hmR c4 hy300 HCo HMS
  obtain ⟨n3, hn3⟩ : ∃ n, p.units.length = n := ⟨_, rfl⟩
  have HN3 := Lib.hid hn3
  rw [hn3] at e3 q1 q1' HP HCh HW1 Hbx ⊢
  rw [hchk] at HCh
  have HChk := Lib.hid hchk
  obtain ⟨hf0, hg0, hc0⟩ := TY.start_told (tyE p i y.code)
  obtain ⟨r, hr, _⟩ := TY.ent_told (tyE p i y.code) ((tyE p i y.code).n + 1) (TY.start (tyE p i y.code).n) hf0 hg0 (by omega)
  have hEn : (tyE p i y.code).n = n := hn
  rw [hEn] at hr hf0 hg0
  have HE0 := Lib.hid (And.intro hr (And.intro hf0 hg0))
  have HQe := Lib.hid (fun w' (hb : Below w.heap.size w w') (hne : r.2.1 ≠ 0) => (show EntQ p i w (.returned (.tuple #[.slice none 0 0, .slice none 0 0, .int .i64 r.1, .int .i64 r.2.1])) w' from ⟨hb, Or.inr ⟨hchk, r, by rw [huy, hn]; exact hr, Or.inl ⟨hne, rfl⟩⟩⟩))
  have HQo := Lib.hid (fun w' vS vR (hb : Below w.heap.size w w') (h0 : r.2.1 = 0) (hS : RowR 1 gridR w' vS r.2.2.stacks) (hR : RowR 1 boolR w' vR r.2.2.reached) (hL : ∀ st ∈ r.2.2.stacks, st.length ≤ 32) => (show EntQ p i w (.returned (.tuple #[vS, vR, .int .i64 0, .int .i64 0])) w' from ⟨hb, Or.inr ⟨hchk, r, by rw [huy, hn]; exact hr, Or.inr ⟨h0, vS, vR, rfl, hS, hR, hL⟩⟩⟩))
  clear hr hf0 hg0 hc0 hEn
  have mixed : Tryz.prog.follows .mixedOrders = true := by kernel_rfl
  clear hP hPs hT hBt hW1 hb1 hbx hchk hc3 hU hcode hOk hu hy huy c0 c1 c2 c3 hbw3 hMS hMR hn hn3
  generalize (chkP p i).1 = z1 at *
  go_enter Tryz.func36, Tryz.ntmps36
  go_wp2_with fail
  rw [← HW1.out]
  refine (HCh.out _ Hb1.out).mono ?_; rintro e w1 ⟨rfl, hb2⟩
  have e0 := cellB hb2 e0 zb
  have e1 := cellB hb2 e1 zb
  have e2 := cellB hb2 e2 zb
  have e3 := cellB hb2 e3 zb
  have c4 := cellB hb2 c4 zb3
  have Hb2 := Lib.hid hb2
  clear hb2
  go_wp2_with fail
  have zb1 := Nat.lt_of_lt_of_le zb Hb2.out.size
  refine wp_region_held_drew (S := (fun w' => Below w1.heap.size w1 w')) (by kernel_rfl) ?_ (fun hHeld => ?_)
  · (try dsimp only); first | assumption | exact Below.alloc hHeld hHeld.size _ | exact (Below.refl _ _).drew | exact Below.drew (Below.refl _ _) | exact Below_drewN _ _ _ | exact Below.refl _ _ | (trace_state; fail)
  refine wpAnyH_take (i := 0) (oi := { dst := some 30, op := Op.load 27 (Operand.tmp 2), type := 27, pos := _, after := #[], guard := none }) (v := ?_) rfl (by kernel_rfl) (by kernel_rfl) (by kernel_rfl) (fun _ _ _ h => h) (Or.inl ⟨by rfl, ?_⟩) (by assumption) ?_
  rotate_left
  · intro wt hSw; (try dsimp only at hSw); have e0 := cellB hSw e0 zb1; have e1 := cellB hSw e1 zb1; have e2 := cellB hSw e2 zb1; have e3 := cellB hSw e3 zb1; first | (go_simp; done) | (go_simp; with_reducible rfl) | (trace_state; fail)
  try simp only [Act.put, List.setIfInBounds_toArray, List.set_cons_zero, List.set_cons_succ]
  refine wpAnyH_take (i := 1) (oi := { dst := some 31, op := Op.move (Operand.tmp 1), type := 3, pos := _, after := #[], guard := none }) (v := ?_) rfl (by kernel_rfl) (by kernel_rfl) (by kernel_rfl) (fun _ _ _ h => h) (Or.inl ⟨by rfl, ?_⟩) (by assumption) ?_
  rotate_left
  · intro wt hSw; (try dsimp only at hSw); have e0 := cellB hSw e0 zb1; have e1 := cellB hSw e1 zb1; have e2 := cellB hSw e2 zb1; have e3 := cellB hSw e3 zb1; first | (go_simp; done) | (go_simp; with_reducible rfl) | (trace_state; fail)
  try simp only [Act.put, List.setIfInBounds_toArray, List.set_cons_zero, List.set_cons_succ]
  refine wpAnyH_take (i := 2) (oi := { dst := some 32, op := Op.move (Operand.tmp 10), type := 36, pos := _, after := #[], guard := none }) (v := ?_) rfl (by kernel_rfl) (by kernel_rfl) (by kernel_rfl) (fun _ _ _ h => h) (Or.inl ⟨by rfl, ?_⟩) (by assumption) ?_
  rotate_left
  · intro wt hSw; (try dsimp only at hSw); have e0 := cellB hSw e0 zb1; have e1 := cellB hSw e1 zb1; have e2 := cellB hSw e2 zb1; have e3 := cellB hSw e3 zb1; first | (go_simp; done) | (go_simp; with_reducible rfl) | (trace_state; fail)
  try simp only [Act.put, List.setIfInBounds_toArray, List.set_cons_zero, List.set_cons_succ]
  refine wpAnyH_take (i := 3) (oi := { dst := some 33, op := Op.move (Operand.tmp 10), type := 36, pos := _, after := #[], guard := none }) (v := ?_) rfl (by kernel_rfl) (by kernel_rfl) (by kernel_rfl) (fun _ _ _ h => h) (Or.inl ⟨by rfl, ?_⟩) (by assumption) ?_
  rotate_left
  · intro wt hSw; (try dsimp only at hSw); have e0 := cellB hSw e0 zb1; have e1 := cellB hSw e1 zb1; have e2 := cellB hSw e2 zb1; have e3 := cellB hSw e3 zb1; first | (go_simp; done) | (go_simp; with_reducible rfl) | (trace_state; fail)
  try simp only [Act.put, List.setIfInBounds_toArray, List.set_cons_zero, List.set_cons_succ]
  refine wpAnyH_take (i := 4) (oi := { dst := some 34, op := Op.call { callee := Callee.builtin Builtin.len, args := #[Operand.tmp 33], argTypes := #[36] }, type := 3, pos := _, after := #[{ on := 3, ground := Ground.data }], guard := none }) (v := ?_) rfl (by kernel_rfl) (by kernel_rfl) (by kernel_rfl) (fun _ _ _ h => h) (Or.inl ⟨by rfl, ?_⟩) (by assumption) ?_
  rotate_left
  · intro wt hSw; (try dsimp only at hSw); have e0 := cellB hSw e0 zb1; have e1 := cellB hSw e1 zb1; have e2 := cellB hSw e2 zb1; have e3 := cellB hSw e3 zb1; first | (go_simp; done) | (go_simp; with_reducible rfl) | (trace_state; fail)
  try simp only [Act.put, List.setIfInBounds_toArray, List.set_cons_zero, List.set_cons_succ]
  refine wpAnyH_take (i := 6) (oi := { dst := some 36, op := Op.move (Operand.tmp 10), type := 36, pos := _, after := #[], guard := none }) (v := ?_) rfl (by kernel_rfl) (by kernel_rfl) (by kernel_rfl) (fun _ _ _ h => h) (Or.inl ⟨by rfl, ?_⟩) (by assumption) ?_
  rotate_left
  · intro wt hSw; (try dsimp only at hSw); have e0 := cellB hSw e0 zb1; have e1 := cellB hSw e1 zb1; have e2 := cellB hSw e2 zb1; have e3 := cellB hSw e3 zb1; first | (go_simp; done) | (go_simp; with_reducible rfl) | (trace_state; fail)
  try simp only [Act.put, List.setIfInBounds_toArray, List.set_cons_zero, List.set_cons_succ]
  refine wpAnyH_take (i := 7) (oi := { dst := some 37, op := Op.call { callee := Callee.builtin Builtin.len, args := #[Operand.tmp 36], argTypes := #[36] }, type := 3, pos := _, after := #[{ on := 6, ground := Ground.data }], guard := none }) (v := ?_) rfl (by kernel_rfl) (by kernel_rfl) (by kernel_rfl) (fun _ _ _ h => h) (Or.inl ⟨by rfl, ?_⟩) (by assumption) ?_
  rotate_left
  · intro wt hSw; (try dsimp only at hSw); have e0 := cellB hSw e0 zb1; have e1 := cellB hSw e1 zb1; have e2 := cellB hSw e2 zb1; have e3 := cellB hSw e3 zb1; first | (go_simp; done) | (go_simp; with_reducible rfl) | (trace_state; fail)
  try simp only [Act.put, List.setIfInBounds_toArray, List.set_cons_zero, List.set_cons_succ]
  refine wpAnyH_ready (rs := [5, 8]) (by kernel_rfl) (by simp) ?_
  refine AllReadyH.cons (o := { dst := some 35, op := Op.makeSlice 54 (Operand.tmp 34) (Operand.tmp 34), type := 54, pos := _, after := #[{ on := 4, ground := Ground.data }, { on := 4, ground := Ground.data }], guard := none }) rfl (fun K hK => ?_) (AllReadyH.cons (o := { dst := some 38, op := Op.makeSlice 55 (Operand.tmp 37) (Operand.tmp 37), type := 55, pos := _, after := #[{ on := 7, ground := Ground.data }, { on := 7, ground := Ground.data }], guard := none }) rfl (fun K hK => ?_) (AllReadyH.nil))
  ·
    go_simp
    refine hK.out _ _ ?_ (fun hHeld => ?_)
    · (try dsimp only); first | assumption | exact Below.alloc hHeld hHeld.size _ | exact (Below.refl _ _).drew | exact Below.drew (Below.refl _ _) | exact Below_drewN _ _ _ | exact Below.refl _ _ | (trace_state; fail)
    clear hK K
    try simp only [Act.put, List.setIfInBounds_toArray, List.set_cons_zero, List.set_cons_succ]
    refine wpAnyH_ready (rs := [8]) (by kernel_rfl) (by simp) ?_
    refine AllReadyH.cons (o := { dst := some 38, op := Op.makeSlice 55 (Operand.tmp 37) (Operand.tmp 37), type := 55, pos := _, after := #[{ on := 7, ground := Ground.data }, { on := 7, ground := Ground.data }], guard := none }) rfl (fun K hK => ?_) AllReadyH.nil
    go_simp
    refine hK.out _ _ ?_ (fun hHeld => ?_)
    · (try dsimp only); first | assumption | exact Below.alloc hHeld hHeld.size _ | exact (Below.refl _ _).drew | exact Below.drew (Below.refl _ _) | exact Below_drewN _ _ _ | exact Below.refl _ _ | (trace_state; fail)
    clear hK K
    try simp only [Act.put, List.setIfInBounds_toArray, List.set_cons_zero, List.set_cons_succ]
    refine wpAnyH_take (i := 9) (oi := { dst := some 39, op := Op.build 112 #[(0, Operand.tmp 30), (1, Operand.tmp 31), (2, Operand.tmp 32), (3, Operand.tmp 35), (4, Operand.tmp 38)], type := 112, pos := _, after := #[{ on := 0, ground := Ground.data }, { on := 1, ground := Ground.data }, { on := 2, ground := Ground.data }, { on := 5, ground := Ground.data }, { on := 8, ground := Ground.data }], guard := none }) (v := ?_) rfl (by kernel_rfl) (by kernel_rfl) (by kernel_rfl) (fun _ _ _ h => h) (Or.inl ⟨by rfl, ?_⟩) (by assumption) ?_
    rotate_left
    · intro wt hSw; (try dsimp only at hSw); have e0 := cellB hSw e0 zb1; have e1 := cellB hSw e1 zb1; have e2 := cellB hSw e2 zb1; have e3 := cellB hSw e3 zb1; first | (go_simp; done) | (go_simp; with_reducible rfl) | (trace_state; fail)
    try simp only [Act.put, List.setIfInBounds_toArray, List.set_cons_zero, List.set_cons_succ]
    refine wpAnyH_ready (rs := [10]) (by kernel_rfl) (by simp) ?_
    refine AllReadyH.cons (o := { dst := some 40, op := Op.box 112 (Operand.tmp 39), type := 109, pos := _, after := #[{ on := 9, ground := Ground.data }], guard := none }) rfl (fun K hK => ?_) AllReadyH.nil
    go_simp
    refine hK.out _ _ ?_ (fun hHeld => ?_)
    · (try dsimp only); first | assumption | exact Below.alloc hHeld hHeld.size _ | exact (Below.refl _ _).drew | exact Below.drew (Below.refl _ _) | exact Below_drewN _ _ _ | exact Below.refl _ _ | (trace_state; fail)
    clear hK K
    try simp only [Act.put, List.setIfInBounds_toArray, List.set_cons_zero, List.set_cons_succ]
    refine wpAnyH_take (i := 11) (oi := { dst := some 11, op := Op.assign (Operand.tmp 40), type := 109, pos := _, after := #[{ on := 10, ground := Ground.data }, { on := 0, ground := Ground.phase }, { on := 1, ground := Ground.phase }, { on := 2, ground := Ground.phase }, { on := 3, ground := Ground.phase }, { on := 4, ground := Ground.phase }, { on := 5, ground := Ground.phase }, { on := 6, ground := Ground.phase }, { on := 7, ground := Ground.phase }, { on := 8, ground := Ground.phase }, { on := 9, ground := Ground.phase }, { on := 10, ground := Ground.phase }], guard := none }) (v := ?_) rfl (by kernel_rfl) (by kernel_rfl) (by kernel_rfl) (fun _ _ _ h => h) (Or.inl ⟨by rfl, ?_⟩) (by assumption) ?_
    rotate_left
    · intro wt hSw; (try dsimp only at hSw); have e0 := cellB hSw e0 zb1; have e1 := cellB hSw e1 zb1; have e2 := cellB hSw e2 zb1; have e3 := cellB hSw e3 zb1; first | (go_simp; done) | (go_simp; with_reducible rfl) | (trace_state; fail)
    try simp only [Act.put, List.setIfInBounds_toArray, List.set_cons_zero, List.set_cons_succ]
    refine wpAnyH_done (by kernel_rfl) ?_ _
    generalize hW5 : World.drew (World.alloc (World.alloc (World.alloc w1 _) _) _) = W5
    have hWB := ent_wat (B := w.heap.size) (n := n) (by first | exact Or.inl hW5 | exact Or.inr hW5) HMS.out (by have := Hb1.out.size; have := Hb2.out.size; omega) hy300
    clear hW5
    obtain ⟨G, hG⟩ : ∃ G, w1.heap.size + 1 + 1 = G := ⟨_, rfl⟩
    rw [hG] at hWB
    rw [hG]
    clear hG
    obtain ⟨gS, gR, hWA, hB5⟩ := hWB
    have HWA := Lib.hid hWA
    have HB5 := Lib.hid (Hb1.out.trans ((Hb2.out.trans (hB5.mono Hb2.out.size)).mono Hb1.out.size))
    clear hWA hB5 e0 e1 e2 e3 c4 hmS hmR
    by_cases hn0 : n = 0
    · subst hn0
      have q8 : ((0 : Int) < ((0 : Nat) : Int)) = False := eq_false (by simp)
      have HWs : Hid (WAt w.heap.size G gS gR 0 ⟨cv, pv, bv, .slice (some ⟨b3, off3, none⟩) n3 t3, .int .i64 (i : Int), .slice sc 0 tc⟩ (.slice none 0 0) (List.replicate 0 (.slice none 0 0)) (TY.start 0) W5) := Lib.hid (by have h := HWA.out; exact h)
      go_wp2_with fail
      go_loopg [12, 13] (0 + 1) (fun k _ _ wr => ∃ (t : WS) (vq : Value) (Ut : List Value), Hid (WAt w.heap.size G gS gR 0 ⟨cv, pv, bv, .slice (some ⟨b3, off3, none⟩) n3 t3, .int .i64 (i : Int), .slice sc 0 tc⟩ vq Ut t wr) ∧ Hid (TY.entF (tyE p i y.code) k t = some r ∧ TY.Fit 0 t ∧ TY.Good (tyE p i y.code) t) ∧ Hid (Below w.heap.size w wr))
      case atStart => exact ⟨TY.start 0, _, _, HWs, HE0, HB5⟩
      case round =>
        obtain ⟨t, vq, Ut, hW, hE, hB⟩ := hrel
        have HW := hW
        have HE := hE
        have HB := hB
        obtain ⟨k', rfl⟩ : ∃ k', gk = k' + 1 := by
          cases gk with
          | zero => have h := hE.out.1; unfold TY.entF at h; cases h
          | succ k => exact ⟨k, rfl⟩
        rename World => wr
        have e8 : wr.cell? ⟨G, 8, none⟩ = some vq := obj_cell hW.out.obj rfl
        have e6 : wr.cell? ⟨G, 6, none⟩ = some (.slice (some ⟨gS, 0, none⟩) 0 0) := obj_cell hW.out.obj rfl
        have e7 : wr.cell? ⟨G, 7, none⟩ = some (.slice (some ⟨gR, 0, none⟩) 0 0) := obj_cell hW.out.obj rfl
        obtain ⟨qa, qc, rfl⟩ := owns_form hW.out.qu
        by_cases hwt : t.waits = []
        · have hR : r = (0, 0, t) := by
            have h := hE.out.1
            unfold TY.entF at h
            rw [if_pos hwt] at h
            exact (Option.some.inj h).symm
          have HFin := Lib.hid (show ∀ m, EntQ p i w (.returned (.tuple #[.slice (some ⟨gS, 0, none⟩) 0 0, .slice (some ⟨gR, 0, none⟩) 0 0, .int .i64 0, .int .i64 0])) (wr.drewN m) from fun m => by
            have hb := Below_drewN wr.heap.size wr m
            have hw2 := hW.out.below hb
            obtain ⟨l1, l2, l3⟩ := hw2.len
            refine HQo.out _ _ _ (hB.out.trans (hb.mono hB.out.size)) (by rw [hR]) ?_ ?_ ?_
            · rw [hR]
              exact grid_own (own_owns hw2.st l2.symm rfl) (fun j u l hu hl => row_of_owns (hw2.rows.row j u l hu hl) (hw2.fit l (List.mem_of_getElem? hl)).2)
            · rw [hR]
              exact bools_of_owns (own_owns hw2.re l3.symm rfl)
            · rw [hR]
              exact fun st hst => (hw2.fit st hst).1)
          rw [hwt] at e8
          have q9 : ((0 : Int) < ((([] : List Nat).length : Nat) : Int)) = False := eq_false (by simp)
          have e8 : wr.cell? ⟨G, 8, none⟩ = some (.slice qa 0 qc) := e8
          clear hW hE hB hwt hR
          go_wp2_with fail
          go_quiet (fail)
          go_wp2_with fail
          go_returns
          exact HFin.out _
        · obtain ⟨q, pc, hqp⟩ : ∃ q pc, t.waits = q ++ [pc] := ⟨t.waits.dropLast, t.waits.getLast hwt, (List.dropLast_concat_getLast hwt).symm⟩
          obtain ⟨ta, tb, tw⟩ := t
          simp only at hqp hwt
          subst hqp
          have hEu := hE.out.1
          have hlast : TY.lastF (q ++ [pc]) = pc := by simp [TY.lastF]
          unfold TY.entF at hEu
          rw [if_neg hwt] at hEu
          simp only [hlast, List.dropLast_concat] at hEu
          obtain ⟨f1, f2, f3, f4⟩ := TY.visit_told (E := tyE p i y.code) (by have h := hE.out.2.1; rw [← HN.out] at h; exact h) hE.out.2.2
          have hpcn : pc < 0 := hE.out.2.1.wl pc (by simp)
          have hlenq : (q ++ [pc]).length = q.length + 1 := by simp
          have hq300 : q.length ≤ 1000 := by
            have h : (q ++ [pc]).length + TY.un tb ≤ 0 := hE.out.2.1.cnt
            rw [hlenq] at h
            omega
          have HTk := Lib.hid (queue_take hW.out.quAt hq300)
          have HWn := hW
          rw [hlenq] at e8 HTk HWn
          have HF1 := Lib.hid (show TY.Fit 0 ⟨ta, tb, q⟩ by have h := f1; rw [show (tyE p i y.code).n = 0 from HN.out] at h; exact h)
          have HF2 := Lib.hid (show TY.Fit 0 (TY.visitF (tyE p i y.code) pc ⟨ta, tb, q⟩).2 by have h := f2; rw [show (tyE p i y.code).n = 0 from HN.out] at h; exact h)
          have HF4 := Lib.hid f4
          have HEu := Lib.hid hEu
          have HPc := Lib.hid hpcn
          obtain ⟨nq, hnq⟩ : ∃ nq, q.length = nq := ⟨_, rfl⟩
          rw [hnq] at e8 hq300
          have q9 : ((0 : Int) < (nq : Int) + 1) = True := eq_true (by omega)
          clear hW hE hB hwt hlast f1 f2 f3 f4 hEu hpcn hlenq e6 e7
          rw [hnq] at HTk HWn
          clear hnq
          go_wp2_with fail
          refine HTk.out.mono ?_; rintro e w2 ⟨rfl, vq2, hQ2, hob2, hF2⟩
          have hW2 := HWn.out.queued hQ2 (Or.inl (by simpa [Value.ownBlock] using hob2)) (hF2.more fun _ _ x => Or.inl x)
          have hB2 := HB.out.trans (hF2.below (B := w.heap.size) (fun k hk => by have := HW.out.hB; omega) HB.out.size)
          have HW2 := Lib.hid hW2
          have HB2 := Lib.hid hB2
          have hBb := hB2
          have HVi := Lib.hid (walk_visit hW2 (HP.out.below hBb) (HT.out.1.below hBb) (HT.out.2.below hBb) hf (HCo.out.below insR_stable hBb) HN.out hy300 HOk.out pc HPc.out HF1.out)
          clear hQ2 hob2 hF2 hW2 hB2 hBb HTk e8
          obtain ⟨V, hV⟩ : ∃ V, TY.visitF (tyE p i y.code) pc ⟨ta, tb, q⟩ = V := ⟨_, rfl⟩
          rw [hV] at HVi HF2 HF4 HEu
          clear hV
          obtain ⟨V1, V2⟩ := V
          go_wp2_with fail
          refine HVi.out.mono ?_; rintro e w3 ⟨rfl, vq3, U3, hW3, hb3⟩
          have HW3 := Lib.hid hW3
          have HB3 := Lib.hid (HB2.out.trans hb3)
          clear hW3 hb3
          by_cases hV0 : V1 = 0
          · subst hV0
            have HEn := Lib.hid (show TY.entF (tyE p i y.code) k' V2 = some r by have h := HEu.out; rwa [if_neg (by simp)] at h)
            have HG2 := Lib.hid (HF4.out rfl)
            go_wp2_with fail
            go_roundg k'
            case measure => omega
            case rel => exact ⟨V2, vq3, U3, HW3, Lib.hid ⟨HEn.out, HF2.out, HG2.out⟩, HB3⟩
          · have qv : (V1 != 0) = true := by simpa using hV0
            have hR : r = ((pc : Int), V1, V2) := by have h := HEu.out; rw [if_pos hV0] at h; exact (Option.some.inj h).symm
            have HFin := Lib.hid (show EntQ p i w (.returned (.tuple #[.slice none 0 0, .slice none 0 0, .int .i64 (pc : Int), .int .i64 V1])) w3 by have h := HQe.out w3 HB3.out (by rw [hR]; exact hV0); rw [hR] at h; exact h)
            clear hV0 hR
            go_wp2_with fail
            go_returns
            exact HFin.out
    · have q8 : ((0 : Int) < (n : Int)) = True := eq_true (by omega)
      have HRe := Lib.hid (walk_reach HWA.out 0 (by omega) (by omega) (.slice none 0 0) [] row_none (by simp) (by simp) (fun x hx => absurd hx List.not_mem_nil))
      go_wp2_with fail
      refine HRe.out.mono ?_; rintro e w6 ⟨rfl, vq6, U6, hW6, hF6, _⟩
      have HWs := Lib.hid (show WAt w.heap.size G gS gR n ⟨cv, pv, bv, .slice (some ⟨b3, off3, none⟩) n3 t3, .int .i64 (i : Int), .slice sc n tc⟩ vq6 U6 (TY.start n) w6 by
        have h := hW6
        unfold TY.start
        rw [if_pos (by omega)]
        exact h)
      have HBs := Lib.hid (HB5.out.trans (hF6.below (B := w.heap.size) (fun k hk => by
        rcases hk with h | h | h | h
        · have := HWA.out.hB; omega
        · have := (owns_lt HWA.out.st (g := gS) rfl).1; omega
        · have := (owns_lt HWA.out.re (g := gR) rfl).1; omega
        · simp [Value.ownBlock] at h) HB5.out.size))
      clear hW6 hF6
      go_wp2_with fail
      go_loopg [12, 13] (n + 1) (fun k _ _ wr => ∃ (t : WS) (vq : Value) (Ut : List Value), Hid (WAt w.heap.size G gS gR n ⟨cv, pv, bv, .slice (some ⟨b3, off3, none⟩) n3 t3, .int .i64 (i : Int), .slice sc n tc⟩ vq Ut t wr) ∧ Hid (TY.entF (tyE p i y.code) k t = some r ∧ TY.Fit n t ∧ TY.Good (tyE p i y.code) t) ∧ Hid (Below w.heap.size w wr))
      case atStart => exact ⟨TY.start n, _, _, HWs, HE0, HBs⟩
      case round =>
        obtain ⟨t, vq, Ut, hW, hE, hB⟩ := hrel
        have HW := hW
        have HE := hE
        have HB := hB
        obtain ⟨k', rfl⟩ : ∃ k', gk = k' + 1 := by
          cases gk with
          | zero => have h := hE.out.1; unfold TY.entF at h; cases h
          | succ k => exact ⟨k, rfl⟩
        rename World => wr
        have e8 : wr.cell? ⟨G, 8, none⟩ = some vq := obj_cell hW.out.obj rfl
        have e6 : wr.cell? ⟨G, 6, none⟩ = some (.slice (some ⟨gS, 0, none⟩) n n) := obj_cell hW.out.obj rfl
        have e7 : wr.cell? ⟨G, 7, none⟩ = some (.slice (some ⟨gR, 0, none⟩) n n) := obj_cell hW.out.obj rfl
        obtain ⟨qa, qc, rfl⟩ := owns_form hW.out.qu
        by_cases hwt : t.waits = []
        · have hR : r = (0, 0, t) := by
            have h := hE.out.1
            unfold TY.entF at h
            rw [if_pos hwt] at h
            exact (Option.some.inj h).symm
          have HFin := Lib.hid (show ∀ m, EntQ p i w (.returned (.tuple #[.slice (some ⟨gS, 0, none⟩) n n, .slice (some ⟨gR, 0, none⟩) n n, .int .i64 0, .int .i64 0])) (wr.drewN m) from fun m => by
            have hb := Below_drewN wr.heap.size wr m
            have hw2 := hW.out.below hb
            obtain ⟨l1, l2, l3⟩ := hw2.len
            refine HQo.out _ _ _ (hB.out.trans (hb.mono hB.out.size)) (by rw [hR]) ?_ ?_ ?_
            · rw [hR]
              exact grid_own (own_owns hw2.st l2.symm rfl) (fun j u l hu hl => row_of_owns (hw2.rows.row j u l hu hl) (hw2.fit l (List.mem_of_getElem? hl)).2)
            · rw [hR]
              exact bools_of_owns (own_owns hw2.re l3.symm rfl)
            · rw [hR]
              exact fun st hst => (hw2.fit st hst).1)
          rw [hwt] at e8
          have q9 : ((0 : Int) < ((([] : List Nat).length : Nat) : Int)) = False := eq_false (by simp)
          have e8 : wr.cell? ⟨G, 8, none⟩ = some (.slice qa 0 qc) := e8
          clear hW hE hB hwt hR
          go_wp2_with fail
          go_quiet (fail)
          go_wp2_with fail
          go_returns
          exact HFin.out _
        · obtain ⟨q, pc, hqp⟩ : ∃ q pc, t.waits = q ++ [pc] := ⟨t.waits.dropLast, t.waits.getLast hwt, (List.dropLast_concat_getLast hwt).symm⟩
          obtain ⟨ta, tb, tw⟩ := t
          simp only at hqp hwt
          subst hqp
          have hEu := hE.out.1
          have hlast : TY.lastF (q ++ [pc]) = pc := by simp [TY.lastF]
          unfold TY.entF at hEu
          rw [if_neg hwt] at hEu
          simp only [hlast, List.dropLast_concat] at hEu
          obtain ⟨f1, f2, f3, f4⟩ := TY.visit_told (E := tyE p i y.code) (by have h := hE.out.2.1; rw [← HN.out] at h; exact h) hE.out.2.2
          have hpcn : pc < n := hE.out.2.1.wl pc (by simp)
          have hlenq : (q ++ [pc]).length = q.length + 1 := by simp
          have hq300 : q.length ≤ 1000 := by
            have h : (q ++ [pc]).length + TY.un tb ≤ n := hE.out.2.1.cnt
            rw [hlenq] at h
            omega
          have HTk := Lib.hid (queue_take hW.out.quAt hq300)
          have HWn := hW
          rw [hlenq] at e8 HTk HWn
          have HF1 := Lib.hid (show TY.Fit n ⟨ta, tb, q⟩ by have h := f1; rw [show (tyE p i y.code).n = n from HN.out] at h; exact h)
          have HF2 := Lib.hid (show TY.Fit n (TY.visitF (tyE p i y.code) pc ⟨ta, tb, q⟩).2 by have h := f2; rw [show (tyE p i y.code).n = n from HN.out] at h; exact h)
          have HF4 := Lib.hid f4
          have HEu := Lib.hid hEu
          have HPc := Lib.hid hpcn
          obtain ⟨nq, hnq⟩ : ∃ nq, q.length = nq := ⟨_, rfl⟩
          rw [hnq] at e8 hq300
          have q9 : ((0 : Int) < (nq : Int) + 1) = True := eq_true (by omega)
          clear hW hE hB hwt hlast f1 f2 f3 f4 hEu hpcn hlenq e6 e7
          rw [hnq] at HTk HWn
          clear hnq
          go_wp2_with fail
          refine HTk.out.mono ?_; rintro e w2 ⟨rfl, vq2, hQ2, hob2, hF2⟩
          have hW2 := HWn.out.queued hQ2 (Or.inl (by simpa [Value.ownBlock] using hob2)) (hF2.more fun _ _ x => Or.inl x)
          have hB2 := HB.out.trans (hF2.below (B := w.heap.size) (fun k hk => by have := HW.out.hB; omega) HB.out.size)
          have HW2 := Lib.hid hW2
          have HB2 := Lib.hid hB2
          have hBb := hB2
          have HVi := Lib.hid (walk_visit hW2 (HP.out.below hBb) (HT.out.1.below hBb) (HT.out.2.below hBb) hf (HCo.out.below insR_stable hBb) HN.out hy300 HOk.out pc HPc.out HF1.out)
          clear hQ2 hob2 hF2 hW2 hB2 hBb HTk e8
          obtain ⟨V, hV⟩ : ∃ V, TY.visitF (tyE p i y.code) pc ⟨ta, tb, q⟩ = V := ⟨_, rfl⟩
          rw [hV] at HVi HF2 HF4 HEu
          clear hV
          obtain ⟨V1, V2⟩ := V
          go_wp2_with fail
          refine HVi.out.mono ?_; rintro e w3 ⟨rfl, vq3, U3, hW3, hb3⟩
          have HW3 := Lib.hid hW3
          have HB3 := Lib.hid (HB2.out.trans hb3)
          clear hW3 hb3
          by_cases hV0 : V1 = 0
          · subst hV0
            have HEn := Lib.hid (show TY.entF (tyE p i y.code) k' V2 = some r by have h := HEu.out; rwa [if_neg (by simp)] at h)
            have HG2 := Lib.hid (HF4.out rfl)
            go_wp2_with fail
            go_roundg k'
            case measure => omega
            case rel => exact ⟨V2, vq3, U3, HW3, Lib.hid ⟨HEn.out, HF2.out, HG2.out⟩, HB3⟩
          · have qv : (V1 != 0) = true := by simpa using hV0
            have hR : r = ((pc : Int), V1, V2) := by have h := HEu.out; rw [if_pos hV0] at h; exact (Option.some.inj h).symm
            have HFin := Lib.hid (show EntQ p i w (.returned (.tuple #[.slice none 0 0, .slice none 0 0, .int .i64 (pc : Int), .int .i64 V1])) w3 by have h := HQe.out w3 HB3.out (by rw [hR]; exact hV0); rw [hR] at h; exact h)
            clear hV0 hR
            go_wp2_with fail
            go_returns
            exact HFin.out
  ·
    go_simp
    refine hK.out _ _ ?_ (fun hHeld => ?_)
    · (try dsimp only); first | assumption | exact Below.alloc hHeld hHeld.size _ | exact (Below.refl _ _).drew | exact Below.drew (Below.refl _ _) | exact Below_drewN _ _ _ | exact Below.refl _ _ | (trace_state; fail)
    clear hK K
    try simp only [Act.put, List.setIfInBounds_toArray, List.set_cons_zero, List.set_cons_succ]
    refine wpAnyH_ready (rs := [5]) (by kernel_rfl) (by simp) ?_
    refine AllReadyH.cons (o := { dst := some 35, op := Op.makeSlice 54 (Operand.tmp 34) (Operand.tmp 34), type := 54, pos := _, after := #[{ on := 4, ground := Ground.data }, { on := 4, ground := Ground.data }], guard := none }) rfl (fun K hK => ?_) AllReadyH.nil
    go_simp
    refine hK.out _ _ ?_ (fun hHeld => ?_)
    · (try dsimp only); first | assumption | exact Below.alloc hHeld hHeld.size _ | exact (Below.refl _ _).drew | exact Below.drew (Below.refl _ _) | exact Below_drewN _ _ _ | exact Below.refl _ _ | (trace_state; fail)
    clear hK K
    try simp only [Act.put, List.setIfInBounds_toArray, List.set_cons_zero, List.set_cons_succ]
    refine wpAnyH_take (i := 9) (oi := { dst := some 39, op := Op.build 112 #[(0, Operand.tmp 30), (1, Operand.tmp 31), (2, Operand.tmp 32), (3, Operand.tmp 35), (4, Operand.tmp 38)], type := 112, pos := _, after := #[{ on := 0, ground := Ground.data }, { on := 1, ground := Ground.data }, { on := 2, ground := Ground.data }, { on := 5, ground := Ground.data }, { on := 8, ground := Ground.data }], guard := none }) (v := ?_) rfl (by kernel_rfl) (by kernel_rfl) (by kernel_rfl) (fun _ _ _ h => h) (Or.inl ⟨by rfl, ?_⟩) (by assumption) ?_
    rotate_left
    · intro wt hSw; (try dsimp only at hSw); have e0 := cellB hSw e0 zb1; have e1 := cellB hSw e1 zb1; have e2 := cellB hSw e2 zb1; have e3 := cellB hSw e3 zb1; first | (go_simp; done) | (go_simp; with_reducible rfl) | (trace_state; fail)
    try simp only [Act.put, List.setIfInBounds_toArray, List.set_cons_zero, List.set_cons_succ]
    refine wpAnyH_ready (rs := [10]) (by kernel_rfl) (by simp) ?_
    refine AllReadyH.cons (o := { dst := some 40, op := Op.box 112 (Operand.tmp 39), type := 109, pos := _, after := #[{ on := 9, ground := Ground.data }], guard := none }) rfl (fun K hK => ?_) AllReadyH.nil
    go_simp
    refine hK.out _ _ ?_ (fun hHeld => ?_)
    · (try dsimp only); first | assumption | exact Below.alloc hHeld hHeld.size _ | exact (Below.refl _ _).drew | exact Below.drew (Below.refl _ _) | exact Below_drewN _ _ _ | exact Below.refl _ _ | (trace_state; fail)
    clear hK K
    try simp only [Act.put, List.setIfInBounds_toArray, List.set_cons_zero, List.set_cons_succ]
    refine wpAnyH_take (i := 11) (oi := { dst := some 11, op := Op.assign (Operand.tmp 40), type := 109, pos := _, after := #[{ on := 10, ground := Ground.data }, { on := 0, ground := Ground.phase }, { on := 1, ground := Ground.phase }, { on := 2, ground := Ground.phase }, { on := 3, ground := Ground.phase }, { on := 4, ground := Ground.phase }, { on := 5, ground := Ground.phase }, { on := 6, ground := Ground.phase }, { on := 7, ground := Ground.phase }, { on := 8, ground := Ground.phase }, { on := 9, ground := Ground.phase }, { on := 10, ground := Ground.phase }], guard := none }) (v := ?_) rfl (by kernel_rfl) (by kernel_rfl) (by kernel_rfl) (fun _ _ _ h => h) (Or.inl ⟨by rfl, ?_⟩) (by assumption) ?_
    rotate_left
    · intro wt hSw; (try dsimp only at hSw); have e0 := cellB hSw e0 zb1; have e1 := cellB hSw e1 zb1; have e2 := cellB hSw e2 zb1; have e3 := cellB hSw e3 zb1; first | (go_simp; done) | (go_simp; with_reducible rfl) | (trace_state; fail)
    try simp only [Act.put, List.setIfInBounds_toArray, List.set_cons_zero, List.set_cons_succ]
    refine wpAnyH_done (by kernel_rfl) ?_ _
    generalize hW5 : World.drew (World.alloc (World.alloc (World.alloc w1 _) _) _) = W5
    have hWB := ent_wat (B := w.heap.size) (n := n) (by first | exact Or.inl hW5 | exact Or.inr hW5) HMS.out (by have := Hb1.out.size; have := Hb2.out.size; omega) hy300
    clear hW5
    obtain ⟨G, hG⟩ : ∃ G, w1.heap.size + 1 + 1 = G := ⟨_, rfl⟩
    rw [hG] at hWB
    rw [hG]
    clear hG
    obtain ⟨gS, gR, hWA, hB5⟩ := hWB
    have HWA := Lib.hid hWA
    have HB5 := Lib.hid (Hb1.out.trans ((Hb2.out.trans (hB5.mono Hb2.out.size)).mono Hb1.out.size))
    clear hWA hB5 e0 e1 e2 e3 c4 hmS hmR
    by_cases hn0 : n = 0
    · subst hn0
      have q8 : ((0 : Int) < ((0 : Nat) : Int)) = False := eq_false (by simp)
      have HWs : Hid (WAt w.heap.size G gS gR 0 ⟨cv, pv, bv, .slice (some ⟨b3, off3, none⟩) n3 t3, .int .i64 (i : Int), .slice sc 0 tc⟩ (.slice none 0 0) (List.replicate 0 (.slice none 0 0)) (TY.start 0) W5) := Lib.hid (by have h := HWA.out; exact h)
      go_wp2_with fail
      go_loopg [12, 13] (0 + 1) (fun k _ _ wr => ∃ (t : WS) (vq : Value) (Ut : List Value), Hid (WAt w.heap.size G gS gR 0 ⟨cv, pv, bv, .slice (some ⟨b3, off3, none⟩) n3 t3, .int .i64 (i : Int), .slice sc 0 tc⟩ vq Ut t wr) ∧ Hid (TY.entF (tyE p i y.code) k t = some r ∧ TY.Fit 0 t ∧ TY.Good (tyE p i y.code) t) ∧ Hid (Below w.heap.size w wr))
      case atStart => exact ⟨TY.start 0, _, _, HWs, HE0, HB5⟩
      case round =>
        obtain ⟨t, vq, Ut, hW, hE, hB⟩ := hrel
        have HW := hW
        have HE := hE
        have HB := hB
        obtain ⟨k', rfl⟩ : ∃ k', gk = k' + 1 := by
          cases gk with
          | zero => have h := hE.out.1; unfold TY.entF at h; cases h
          | succ k => exact ⟨k, rfl⟩
        rename World => wr
        have e8 : wr.cell? ⟨G, 8, none⟩ = some vq := obj_cell hW.out.obj rfl
        have e6 : wr.cell? ⟨G, 6, none⟩ = some (.slice (some ⟨gS, 0, none⟩) 0 0) := obj_cell hW.out.obj rfl
        have e7 : wr.cell? ⟨G, 7, none⟩ = some (.slice (some ⟨gR, 0, none⟩) 0 0) := obj_cell hW.out.obj rfl
        obtain ⟨qa, qc, rfl⟩ := owns_form hW.out.qu
        by_cases hwt : t.waits = []
        · have hR : r = (0, 0, t) := by
            have h := hE.out.1
            unfold TY.entF at h
            rw [if_pos hwt] at h
            exact (Option.some.inj h).symm
          have HFin := Lib.hid (show ∀ m, EntQ p i w (.returned (.tuple #[.slice (some ⟨gS, 0, none⟩) 0 0, .slice (some ⟨gR, 0, none⟩) 0 0, .int .i64 0, .int .i64 0])) (wr.drewN m) from fun m => by
            have hb := Below_drewN wr.heap.size wr m
            have hw2 := hW.out.below hb
            obtain ⟨l1, l2, l3⟩ := hw2.len
            refine HQo.out _ _ _ (hB.out.trans (hb.mono hB.out.size)) (by rw [hR]) ?_ ?_ ?_
            · rw [hR]
              exact grid_own (own_owns hw2.st l2.symm rfl) (fun j u l hu hl => row_of_owns (hw2.rows.row j u l hu hl) (hw2.fit l (List.mem_of_getElem? hl)).2)
            · rw [hR]
              exact bools_of_owns (own_owns hw2.re l3.symm rfl)
            · rw [hR]
              exact fun st hst => (hw2.fit st hst).1)
          rw [hwt] at e8
          have q9 : ((0 : Int) < ((([] : List Nat).length : Nat) : Int)) = False := eq_false (by simp)
          have e8 : wr.cell? ⟨G, 8, none⟩ = some (.slice qa 0 qc) := e8
          clear hW hE hB hwt hR
          go_wp2_with fail
          go_quiet (fail)
          go_wp2_with fail
          go_returns
          exact HFin.out _
        · obtain ⟨q, pc, hqp⟩ : ∃ q pc, t.waits = q ++ [pc] := ⟨t.waits.dropLast, t.waits.getLast hwt, (List.dropLast_concat_getLast hwt).symm⟩
          obtain ⟨ta, tb, tw⟩ := t
          simp only at hqp hwt
          subst hqp
          have hEu := hE.out.1
          have hlast : TY.lastF (q ++ [pc]) = pc := by simp [TY.lastF]
          unfold TY.entF at hEu
          rw [if_neg hwt] at hEu
          simp only [hlast, List.dropLast_concat] at hEu
          obtain ⟨f1, f2, f3, f4⟩ := TY.visit_told (E := tyE p i y.code) (by have h := hE.out.2.1; rw [← HN.out] at h; exact h) hE.out.2.2
          have hpcn : pc < 0 := hE.out.2.1.wl pc (by simp)
          have hlenq : (q ++ [pc]).length = q.length + 1 := by simp
          have hq300 : q.length ≤ 1000 := by
            have h : (q ++ [pc]).length + TY.un tb ≤ 0 := hE.out.2.1.cnt
            rw [hlenq] at h
            omega
          have HTk := Lib.hid (queue_take hW.out.quAt hq300)
          have HWn := hW
          rw [hlenq] at e8 HTk HWn
          have HF1 := Lib.hid (show TY.Fit 0 ⟨ta, tb, q⟩ by have h := f1; rw [show (tyE p i y.code).n = 0 from HN.out] at h; exact h)
          have HF2 := Lib.hid (show TY.Fit 0 (TY.visitF (tyE p i y.code) pc ⟨ta, tb, q⟩).2 by have h := f2; rw [show (tyE p i y.code).n = 0 from HN.out] at h; exact h)
          have HF4 := Lib.hid f4
          have HEu := Lib.hid hEu
          have HPc := Lib.hid hpcn
          obtain ⟨nq, hnq⟩ : ∃ nq, q.length = nq := ⟨_, rfl⟩
          rw [hnq] at e8 hq300
          have q9 : ((0 : Int) < (nq : Int) + 1) = True := eq_true (by omega)
          clear hW hE hB hwt hlast f1 f2 f3 f4 hEu hpcn hlenq e6 e7
          rw [hnq] at HTk HWn
          clear hnq
          go_wp2_with fail
          refine HTk.out.mono ?_; rintro e w2 ⟨rfl, vq2, hQ2, hob2, hF2⟩
          have hW2 := HWn.out.queued hQ2 (Or.inl (by simpa [Value.ownBlock] using hob2)) (hF2.more fun _ _ x => Or.inl x)
          have hB2 := HB.out.trans (hF2.below (B := w.heap.size) (fun k hk => by have := HW.out.hB; omega) HB.out.size)
          have HW2 := Lib.hid hW2
          have HB2 := Lib.hid hB2
          have hBb := hB2
          have HVi := Lib.hid (walk_visit hW2 (HP.out.below hBb) (HT.out.1.below hBb) (HT.out.2.below hBb) hf (HCo.out.below insR_stable hBb) HN.out hy300 HOk.out pc HPc.out HF1.out)
          clear hQ2 hob2 hF2 hW2 hB2 hBb HTk e8
          obtain ⟨V, hV⟩ : ∃ V, TY.visitF (tyE p i y.code) pc ⟨ta, tb, q⟩ = V := ⟨_, rfl⟩
          rw [hV] at HVi HF2 HF4 HEu
          clear hV
          obtain ⟨V1, V2⟩ := V
          go_wp2_with fail
          refine HVi.out.mono ?_; rintro e w3 ⟨rfl, vq3, U3, hW3, hb3⟩
          have HW3 := Lib.hid hW3
          have HB3 := Lib.hid (HB2.out.trans hb3)
          clear hW3 hb3
          by_cases hV0 : V1 = 0
          · subst hV0
            have HEn := Lib.hid (show TY.entF (tyE p i y.code) k' V2 = some r by have h := HEu.out; rwa [if_neg (by simp)] at h)
            have HG2 := Lib.hid (HF4.out rfl)
            go_wp2_with fail
            go_roundg k'
            case measure => omega
            case rel => exact ⟨V2, vq3, U3, HW3, Lib.hid ⟨HEn.out, HF2.out, HG2.out⟩, HB3⟩
          · have qv : (V1 != 0) = true := by simpa using hV0
            have hR : r = ((pc : Int), V1, V2) := by have h := HEu.out; rw [if_pos hV0] at h; exact (Option.some.inj h).symm
            have HFin := Lib.hid (show EntQ p i w (.returned (.tuple #[.slice none 0 0, .slice none 0 0, .int .i64 (pc : Int), .int .i64 V1])) w3 by have h := HQe.out w3 HB3.out (by rw [hR]; exact hV0); rw [hR] at h; exact h)
            clear hV0 hR
            go_wp2_with fail
            go_returns
            exact HFin.out
    · have q8 : ((0 : Int) < (n : Int)) = True := eq_true (by omega)
      have HRe := Lib.hid (walk_reach HWA.out 0 (by omega) (by omega) (.slice none 0 0) [] row_none (by simp) (by simp) (fun x hx => absurd hx List.not_mem_nil))
      go_wp2_with fail
      refine HRe.out.mono ?_; rintro e w6 ⟨rfl, vq6, U6, hW6, hF6, _⟩
      have HWs := Lib.hid (show WAt w.heap.size G gS gR n ⟨cv, pv, bv, .slice (some ⟨b3, off3, none⟩) n3 t3, .int .i64 (i : Int), .slice sc n tc⟩ vq6 U6 (TY.start n) w6 by
        have h := hW6
        unfold TY.start
        rw [if_pos (by omega)]
        exact h)
      have HBs := Lib.hid (HB5.out.trans (hF6.below (B := w.heap.size) (fun k hk => by
        rcases hk with h | h | h | h
        · have := HWA.out.hB; omega
        · have := (owns_lt HWA.out.st (g := gS) rfl).1; omega
        · have := (owns_lt HWA.out.re (g := gR) rfl).1; omega
        · simp [Value.ownBlock] at h) HB5.out.size))
      clear hW6 hF6
      go_wp2_with fail
      go_loopg [12, 13] (n + 1) (fun k _ _ wr => ∃ (t : WS) (vq : Value) (Ut : List Value), Hid (WAt w.heap.size G gS gR n ⟨cv, pv, bv, .slice (some ⟨b3, off3, none⟩) n3 t3, .int .i64 (i : Int), .slice sc n tc⟩ vq Ut t wr) ∧ Hid (TY.entF (tyE p i y.code) k t = some r ∧ TY.Fit n t ∧ TY.Good (tyE p i y.code) t) ∧ Hid (Below w.heap.size w wr))
      case atStart => exact ⟨TY.start n, _, _, HWs, HE0, HBs⟩
      case round =>
        obtain ⟨t, vq, Ut, hW, hE, hB⟩ := hrel
        have HW := hW
        have HE := hE
        have HB := hB
        obtain ⟨k', rfl⟩ : ∃ k', gk = k' + 1 := by
          cases gk with
          | zero => have h := hE.out.1; unfold TY.entF at h; cases h
          | succ k => exact ⟨k, rfl⟩
        rename World => wr
        have e8 : wr.cell? ⟨G, 8, none⟩ = some vq := obj_cell hW.out.obj rfl
        have e6 : wr.cell? ⟨G, 6, none⟩ = some (.slice (some ⟨gS, 0, none⟩) n n) := obj_cell hW.out.obj rfl
        have e7 : wr.cell? ⟨G, 7, none⟩ = some (.slice (some ⟨gR, 0, none⟩) n n) := obj_cell hW.out.obj rfl
        obtain ⟨qa, qc, rfl⟩ := owns_form hW.out.qu
        by_cases hwt : t.waits = []
        · have hR : r = (0, 0, t) := by
            have h := hE.out.1
            unfold TY.entF at h
            rw [if_pos hwt] at h
            exact (Option.some.inj h).symm
          have HFin := Lib.hid (show ∀ m, EntQ p i w (.returned (.tuple #[.slice (some ⟨gS, 0, none⟩) n n, .slice (some ⟨gR, 0, none⟩) n n, .int .i64 0, .int .i64 0])) (wr.drewN m) from fun m => by
            have hb := Below_drewN wr.heap.size wr m
            have hw2 := hW.out.below hb
            obtain ⟨l1, l2, l3⟩ := hw2.len
            refine HQo.out _ _ _ (hB.out.trans (hb.mono hB.out.size)) (by rw [hR]) ?_ ?_ ?_
            · rw [hR]
              exact grid_own (own_owns hw2.st l2.symm rfl) (fun j u l hu hl => row_of_owns (hw2.rows.row j u l hu hl) (hw2.fit l (List.mem_of_getElem? hl)).2)
            · rw [hR]
              exact bools_of_owns (own_owns hw2.re l3.symm rfl)
            · rw [hR]
              exact fun st hst => (hw2.fit st hst).1)
          rw [hwt] at e8
          have q9 : ((0 : Int) < ((([] : List Nat).length : Nat) : Int)) = False := eq_false (by simp)
          have e8 : wr.cell? ⟨G, 8, none⟩ = some (.slice qa 0 qc) := e8
          clear hW hE hB hwt hR
          go_wp2_with fail
          go_quiet (fail)
          go_wp2_with fail
          go_returns
          exact HFin.out _
        · obtain ⟨q, pc, hqp⟩ : ∃ q pc, t.waits = q ++ [pc] := ⟨t.waits.dropLast, t.waits.getLast hwt, (List.dropLast_concat_getLast hwt).symm⟩
          obtain ⟨ta, tb, tw⟩ := t
          simp only at hqp hwt
          subst hqp
          have hEu := hE.out.1
          have hlast : TY.lastF (q ++ [pc]) = pc := by simp [TY.lastF]
          unfold TY.entF at hEu
          rw [if_neg hwt] at hEu
          simp only [hlast, List.dropLast_concat] at hEu
          obtain ⟨f1, f2, f3, f4⟩ := TY.visit_told (E := tyE p i y.code) (by have h := hE.out.2.1; rw [← HN.out] at h; exact h) hE.out.2.2
          have hpcn : pc < n := hE.out.2.1.wl pc (by simp)
          have hlenq : (q ++ [pc]).length = q.length + 1 := by simp
          have hq300 : q.length ≤ 1000 := by
            have h : (q ++ [pc]).length + TY.un tb ≤ n := hE.out.2.1.cnt
            rw [hlenq] at h
            omega
          have HTk := Lib.hid (queue_take hW.out.quAt hq300)
          have HWn := hW
          rw [hlenq] at e8 HTk HWn
          have HF1 := Lib.hid (show TY.Fit n ⟨ta, tb, q⟩ by have h := f1; rw [show (tyE p i y.code).n = n from HN.out] at h; exact h)
          have HF2 := Lib.hid (show TY.Fit n (TY.visitF (tyE p i y.code) pc ⟨ta, tb, q⟩).2 by have h := f2; rw [show (tyE p i y.code).n = n from HN.out] at h; exact h)
          have HF4 := Lib.hid f4
          have HEu := Lib.hid hEu
          have HPc := Lib.hid hpcn
          obtain ⟨nq, hnq⟩ : ∃ nq, q.length = nq := ⟨_, rfl⟩
          rw [hnq] at e8 hq300
          have q9 : ((0 : Int) < (nq : Int) + 1) = True := eq_true (by omega)
          clear hW hE hB hwt hlast f1 f2 f3 f4 hEu hpcn hlenq e6 e7
          rw [hnq] at HTk HWn
          clear hnq
          go_wp2_with fail
          refine HTk.out.mono ?_; rintro e w2 ⟨rfl, vq2, hQ2, hob2, hF2⟩
          have hW2 := HWn.out.queued hQ2 (Or.inl (by simpa [Value.ownBlock] using hob2)) (hF2.more fun _ _ x => Or.inl x)
          have hB2 := HB.out.trans (hF2.below (B := w.heap.size) (fun k hk => by have := HW.out.hB; omega) HB.out.size)
          have HW2 := Lib.hid hW2
          have HB2 := Lib.hid hB2
          have hBb := hB2
          have HVi := Lib.hid (walk_visit hW2 (HP.out.below hBb) (HT.out.1.below hBb) (HT.out.2.below hBb) hf (HCo.out.below insR_stable hBb) HN.out hy300 HOk.out pc HPc.out HF1.out)
          clear hQ2 hob2 hF2 hW2 hB2 hBb HTk e8
          obtain ⟨V, hV⟩ : ∃ V, TY.visitF (tyE p i y.code) pc ⟨ta, tb, q⟩ = V := ⟨_, rfl⟩
          rw [hV] at HVi HF2 HF4 HEu
          clear hV
          obtain ⟨V1, V2⟩ := V
          go_wp2_with fail
          refine HVi.out.mono ?_; rintro e w3 ⟨rfl, vq3, U3, hW3, hb3⟩
          have HW3 := Lib.hid hW3
          have HB3 := Lib.hid (HB2.out.trans hb3)
          clear hW3 hb3
          by_cases hV0 : V1 = 0
          · subst hV0
            have HEn := Lib.hid (show TY.entF (tyE p i y.code) k' V2 = some r by have h := HEu.out; rwa [if_neg (by simp)] at h)
            have HG2 := Lib.hid (HF4.out rfl)
            go_wp2_with fail
            go_roundg k'
            case measure => omega
            case rel => exact ⟨V2, vq3, U3, HW3, Lib.hid ⟨HEn.out, HF2.out, HG2.out⟩, HB3⟩
          · have qv : (V1 != 0) = true := by simpa using hV0
            have hR : r = ((pc : Int), V1, V2) := by have h := HEu.out; rw [if_pos hV0] at h; exact (Option.some.inj h).symm
            have HFin := Lib.hid (show EntQ p i w (.returned (.tuple #[.slice none 0 0, .slice none 0 0, .int .i64 (pc : Int), .int .i64 V1])) w3 by have h := HQe.out w3 HB3.out (by rw [hR]; exact hV0); rw [hR] at h; exact h)
            clear hV0 hR
            go_wp2_with fail
            go_returns
            exact HFin.out
end Go.Proofs.YtefejcofmopjfaaGreatDoor

/- Layer 22, plain: a unit stays typed when the program around it has a constant more, or a unit less that it doesn't call. -/
namespace Go.Proofs.YtefejcofmopjfaaGreatDoor
set_option linter.unusedSimpArgs false
set_option linter.unusedVariables false
/-- what of the program around an instruction counts -/
structure SameAt (p q : Pr) (u o a b : Int) : Prop where
  one : oneP q u o a b = oneP p u o a b
  tk : takesL q (unAt q u) o a b = takesL p (unAt p u) o a b
  lv : leavesL q (unAt q u) o a b = leavesL p (unAt p u) o a b
theorem SameAt.step {p q : Pr} {u o a b : Int} (h : SameAt p q u o a b) (st : List Int) : stepE q u o a b st = stepE p u o a b st ∧ stepS q u o a b st = stepS p u o a b st := by
  unfold stepE stepS
  rw [h.one, h.tk, h.lv]
  exact ⟨rfl, rfl⟩
theorem one_nop (p : Pr) (u : Int) (hu : 0 ≤ u ∧ u < p.units.length) : oneP p u 0 0 0 = 0 := by
  unfold oneP
  rw [if_neg (fun h => h hu), if_neg (by decide), if_neg (by decide), if_neg]
  have : thereP p (unAt p u) 0 0 0 = true := by
    unfold thereP
    rw [if_neg (by decide), if_neg (by decide), if_neg (by decide), if_neg (by decide), if_neg (by decide)]
  rw [this]; decide
theorem tyE_same {p q : Pr} {u : Int} {L : List Ins} (h : ∀ k : Nat, SameAt p q u (L.getD k (0, 0, 0)).1 (L.getD k (0, 0, 0)).2.1 (L.getD k (0, 0, 0)).2.2) : tyE q u L = tyE p u L := by
  unfold tyE
  congr 1
  · funext pc st; exact ((h pc).step st).1
  · funext pc st; exact ((h pc).step st).2
theorem chk_zero {p : Pr} {u : Int} (h : (chkP p u).2 = 0) : (0 ≤ u ∧ u < p.units.length) ∧ ∀ k, k < (unAt p u).code.length → errAt p u (unAt p u).code k = 0 := by
  have hu := (chk_ok h).1
  rw [chkP_is hu] at h
  exact ⟨hu, firstP_zero h⟩
theorem err_one {p : Pr} {u : Int} {L : List Ins} {k : Nat} (h : errAt p u L k = 0) : oneP p u (L.getD k (0, 0, 0)).1 (L.getD k (0, 0, 0)).2.1 (L.getD k (0, 0, 0)).2.2 = 0 := by
  unfold errAt at h
  by_cases h1 : oneP p u (L.getD k (0, 0, 0)).1 (L.getD k (0, 0, 0)).2.1 (L.getD k (0, 0, 0)).2.2 = 0
  · exact h1
  · simp only [h1, if_false] at h
/-- a unit is typed -/
def entOk (p : Pr) (u : Int) : Prop := (chkP p u).2 = 0 ∧ ∃ r, TY.entF (tyE p u (unAt p u).code) ((unAt p u).code.length + 1) (TY.start (unAt p u).code.length) = some r ∧ r.2.1 = 0
theorem entOk_same {p q : Pr} {u : Int} (hq : 0 ≤ u ∧ u < q.units.length) (hun : unAt q u = unAt p u) (h : ∀ k : Nat, oneP p u ((unAt p u).code.getD k (0, 0, 0)).1 ((unAt p u).code.getD k (0, 0, 0)).2.1 ((unAt p u).code.getD k (0, 0, 0)).2.2 = 0 → SameAt p q u ((unAt p u).code.getD k (0, 0, 0)).1 ((unAt p u).code.getD k (0, 0, 0)).2.1 ((unAt p u).code.getD k (0, 0, 0)).2.2) (he : entOk p u) : entOk q u := by
  obtain ⟨h1, r, h2, h3⟩ := he
  obtain ⟨hu, hz⟩ := chk_zero h1
  have hs : ∀ k : Nat, SameAt p q u ((unAt p u).code.getD k (0, 0, 0)).1 ((unAt p u).code.getD k (0, 0, 0)).2.1 ((unAt p u).code.getD k (0, 0, 0)).2.2 := fun k => h k (by
    by_cases hk : k < (unAt p u).code.length
    · exact err_one (hz k hk)
    · have : (unAt p u).code.getD k (0, 0, 0) = (0, 0, 0) := by rw [List.getD, List.getElem?_eq_none (by omega)]; rfl
      rw [this]
      exact one_nop p u hu)
  refine ⟨?_, r, ?_, h3⟩
  · rw [chkP_is hq, hun, firstP_none]
    intro k hk
    have e := hz k hk
    unfold errAt at e ⊢
    simp only [(hs k).one]
    exact e
  · rw [hun, tyE_same hs]
    exact h2
/-- a constant more -/
theorem entOk_const {p : Pr} {u : Int} (c : Int × Int) (he : entOk p u) : entOk { p with consts := p.consts ++ [c] } u := by
  refine entOk_same (p := p) (q := { p with consts := p.consts ++ [c] }) (chk_ok he.1).1 rfl (fun k h => ?_) he
  generalize ((unAt p u).code.getD k (0, 0, 0)).1 = o at *
  generalize ((unAt p u).code.getD k (0, 0, 0)).2.1 = a at *
  generalize ((unAt p u).code.getD k (0, 0, 0)).2.2 = b at *
  obtain ⟨h1, h2, h3, h4, h5, h6⟩ := oneP_parts h
  have ha : oA o = 1 → a < p.consts.length := fun ho => by
    unfold thereP at h6
    rw [if_pos ho] at h6
    exact of_decide_eq_true h6
  have ht : thereP { p with consts := p.consts ++ [c] } (unAt p u) o a b = true := by
    by_cases ho : oA o = 1
    · unfold thereP
      rw [if_pos ho]
      have := ha ho
      simp
      omega
    · have e : thereP { p with consts := p.consts ++ [c] } (unAt p u) o a b = thereP p (unAt p u) o a b := by
        unfold thereP
        rw [if_neg ho, if_neg ho]
        rfl
      rw [e]; exact h6
  refine ⟨?_, rfl, ?_⟩
  · have e : oneP { p with consts := p.consts ++ [c] } u o a b = 0 := by
      unfold oneP at h ⊢
      have hun : unAt { p with consts := p.consts ++ [c] } u = unAt p u := rfl
      rw [hun, ht]
      rw [h6] at h
      exact h
    rw [e, h]
  · by_cases ho : o = 1
    · have hl : a < p.consts.length := ha (by rw [ho]; decide)
      have e : cAt { p with consts := p.consts ++ [c] } a = cAt p a := by
        unfold cAt
        show ((p.consts ++ [c]).getD a.toNat (0, 0)).1 = _
        rw [List.getD, List.getElem?_append_left (by omega)]
        rfl
      unfold leavesL
      rw [if_pos ho, if_pos ho, e]
    · unfold leavesL
      rw [if_neg ho, if_neg ho]
      rfl
theorem oA_call : ∀ n : Nat, n ≤ 37 → oA (n : Int) = 7 → n = 33 := by decide
theorem unAt_take {p : Pr} {n : Nat} {u : Int} (h0 : 0 ≤ u) (h : u < n) : unAt { p with units := p.units.take n } u = unAt p u := by
  unfold unAt
  show (p.units.take n).getD u.toNat _ = _
  rw [List.getD, List.getElem?_take_of_lt (by omega)]
  rfl
/-- without the units from the n-th on, where nobody calls one of these -/
theorem entOk_take {p : Pr} {n : Nat} {u : Int} (hn : n ≤ p.units.length) (hu : u < n) (hc : ∀ x ∈ (unAt p u).code, x.1 = 33 → x.2.1 < n) (he : entOk p u) : entOk { p with units := p.units.take n } u := by
  have hup := (chk_ok he.1).1
  have hun := unAt_take (p := p) hup.1 hu
  have hlen : ({ p with units := p.units.take n } : Pr).units.length = n := by show (p.units.take n).length = n; rw [List.length_take]; omega
  refine entOk_same (p := p) (q := { p with units := p.units.take n }) ⟨hup.1, by rw [hlen]; exact hu⟩ hun (fun k h => ?_) he
  have hcall : ((unAt p u).code.getD k (0, 0, 0)).1 = 33 → ((unAt p u).code.getD k (0, 0, 0)).2.1 < n := by
    intro h33
    by_cases hk : k < (unAt p u).code.length
    · refine hc _ ?_ h33
      rw [List.getD, List.getElem?_eq_getElem hk]
      exact List.getElem_mem hk
    · have : (unAt p u).code.getD k (0, 0, 0) = (0, 0, 0) := by rw [List.getD, List.getElem?_eq_none (by omega)]; rfl
      rw [this] at h33; simp at h33
  generalize ((unAt p u).code.getD k (0, 0, 0)).1 = o at *
  generalize ((unAt p u).code.getD k (0, 0, 0)).2.1 = a at *
  generalize ((unAt p u).code.getD k (0, 0, 0)).2.2 = b at *
  obtain ⟨h1, h2, h3, h4, h5, h6⟩ := oneP_parts h
  have h37 : oA o = 7 → o = 33 := fun ho => by
    have := oA_call o.toNat (by omega) (by rw [Int.toNat_of_nonneg h2.1]; exact ho)
    omega
  have ht : thereP { p with units := p.units.take n } (unAt p u) o a b = true := by
    by_cases ho : oA o = 7
    · have e33 := hcall (h37 ho)
      unfold thereP at h6 ⊢
      rw [if_neg (by omega), if_neg (by omega), if_neg (by omega), if_pos ho] at h6 ⊢
      rw [hlen]
      have := of_decide_eq_true h6
      exact decide_eq_true ⟨this.1, e33⟩
    · have e : thereP { p with units := p.units.take n } (unAt p u) o a b = thereP p (unAt p u) o a b := by
        unfold thereP
        rw [if_neg ho, if_neg ho]
        rfl
      rw [e]; exact h6
  have hua : o = 33 → unAt { p with units := p.units.take n } a = unAt p a := fun ho => unAt_take h3 (hcall ho)
  refine ⟨?_, ?_, ?_⟩
  · have e : oneP { p with units := p.units.take n } u o a b = 0 := by
      unfold oneP at h ⊢
      rw [hun, ht, if_neg (by rw [hlen]; exact fun x => x ⟨hup.1, hu⟩)]
      rw [h6, if_neg (fun x => x hup)] at h
      exact h
    rw [e, h]
  · rw [hun]
    by_cases ho : o = 33
    · unfold takesL
      rw [hua ho]
      rfl
    · unfold takesL
      rw [if_neg ho, if_neg ho]
      rfl
  · rw [hun]
    by_cases ho : o = 33
    · unfold leavesL
      rw [hua ho]
      rfl
    · unfold leavesL
      rw [if_neg ho, if_neg ho]
      rfl
end Go.Proofs.YtefejcofmopjfaaGreatDoor

/- Layer 21, plain: whom units call, in which order they stand, how deep they call; circles. -/
namespace Go.Proofs.YtefejcofmopjfaaGreatDoor
namespace CL
set_option linter.unusedSimpArgs false
set_option linter.unusedVariables false
/-- a code calls c -/
def cls (cs : List (Int × Int × Int)) (c : Int) : Bool := cs.any fun i => decide (i.1 = 33) && decide (i.2.1 = c)
/-- the calls that are told, in the code's order -/
def tg (n : Nat) (cs : List (Int × Int × Int)) : List Int := (cs.filter fun i => decide (i.1 = 33) && decide (0 ≤ i.2.1) && decide (i.2.1 < (n : Int))).map fun i => i.2.1
/-- those that are called, ascending -/
def ofN (n : Nat) (cs : List (Int × Int × Int)) : List Nat := (List.range n).filter fun c => cls cs (c : Int)
def srt (l : List Int) : List Int := l.mergeSort fun x y => decide (x ≤ y)
theorem srt_perm (l : List Int) : (srt l).Perm l := List.mergeSort_perm l _
theorem srt_len (l : List Int) : (srt l).length = l.length := (srt_perm l).length_eq
theorem srt_mem {l : List Int} {x : Int} : x ∈ srt l ↔ x ∈ l := (srt_perm l).mem_iff
theorem srt_sorted (l : List Int) : (srt l).Pairwise (· ≤ ·) := by
  have := List.pairwise_mergeSort (le := fun x y : Int => decide (x ≤ y)) (fun a b c h1 h2 => by simp at *; omega) (fun a b => by simp; omega) l
  exact this.imp (fun h => by simpa using h)
/-- what is kept of a sorted list rises -/
theorem upTo_spec (d : Array Int) (hs : d.toList.Pairwise (· ≤ ·)) : ∀ m, m ≤ d.size → (Lib.compactUpTo d m).Pairwise (· < ·) ∧ (∀ x, x ∈ Lib.compactUpTo d m ↔ ∃ j, j < m ∧ d[j]! = x) := by
  intro m
  induction m with
  | zero => intro _; exact ⟨by simp [Lib.compactUpTo], fun x => by simp [Lib.compactUpTo]⟩
  | succ m ih =>
    intro hm
    obtain ⟨h1, h2⟩ := ih (by omega)
    have hle : ∀ i j, i ≤ j → j < d.size → d[i]! ≤ d[j]! := by
      intro i j hij hj
      by_cases e : i = j
      · subst e; exact Int.le_refl _
      · have := List.pairwise_iff_getElem.1 hs i j (by simp; omega) (by simpa using hj) (by omega)
        rw [getElem!_pos d i (by omega), getElem!_pos d j hj]
        simpa using this
    rw [Lib.compactUpTo_succ]
    by_cases hk : Lib.keeps d m = true
    · rw [if_pos hk]
      have hk' : m = 0 ∨ d[m]! ≠ d[m - 1]! := by simpa [Lib.keeps] using hk
      refine ⟨List.pairwise_append.2 ⟨h1, by simp, fun a ha b hb => ?_⟩, fun x => ?_⟩
      · rw [List.mem_singleton] at hb
        subst hb
        obtain ⟨j, hj, rfl⟩ := (h2 a).1 ha
        rcases hk' with h0 | hne
        · omega
        · have e1 := hle j (m - 1) (by omega) (by omega)
          have e2 := hle (m - 1) m (by omega) (by omega)
          omega
      · rw [List.mem_append, h2, List.mem_singleton]
        constructor
        · rintro (⟨j, hj, rfl⟩ | rfl)
          · exact ⟨j, by omega, rfl⟩
          · exact ⟨m, by omega, rfl⟩
        · rintro ⟨j, hj, rfl⟩
          by_cases e : j = m
          · subst e; exact Or.inr rfl
          · exact Or.inl ⟨j, by omega, rfl⟩
    · rw [if_neg hk, List.append_nil]
      have hk' : ¬ (m = 0 ∨ d[m]! ≠ d[m - 1]!) := by simpa [Lib.keeps] using hk
      refine ⟨h1, fun x => ?_⟩
      rw [h2]
      constructor
      · rintro ⟨j, hj, rfl⟩; exact ⟨j, by omega, rfl⟩
      · rintro ⟨j, hj, rfl⟩
        by_cases e : j = m
        · subst e
          have hm0 : ¬ j = 0 := fun h => hk' (Or.inl h)
          have he : d[j]! = d[j - 1]! := Classical.byContradiction fun h => hk' (Or.inr h)
          exact ⟨j - 1, by omega, he.symm⟩
        · exact ⟨j, by omega, rfl⟩
theorem compact_spec {l : List Int} (hs : l.Pairwise (· ≤ ·)) : (Lib.compact l).Pairwise (· < ·) ∧ ∀ x, x ∈ Lib.compact l ↔ x ∈ l := by
  obtain ⟨h1, h2⟩ := upTo_spec l.toArray (by simpa using hs) l.length (by simp)
  refine ⟨h1, fun x => ?_⟩
  show x ∈ Lib.compactUpTo _ _ ↔ _
  rw [h2, List.mem_iff_getElem]
  constructor
  · rintro ⟨j, hj, h⟩; exact ⟨j, hj, by rw [getElem!_pos _ j (by simpa using hj)] at h; simpa using h⟩
  · rintro ⟨j, hj, h⟩; exact ⟨j, hj, by rw [getElem!_pos _ j (by simpa using hj)]; simpa using h⟩
/-- two rising lists of the same are one -/
theorem rise_eq : ∀ {a b : List Int}, a.Pairwise (· < ·) → b.Pairwise (· < ·) → (∀ x, x ∈ a ↔ x ∈ b) → a = b
  | [], b, _, _, h => by
    cases b with
    | nil => rfl
    | cons y t => exact absurd ((h y).2 (by simp)) (by simp)
  | x :: s, b, ha, hb, h => by
    cases b with
    | nil => exact absurd ((h x).1 (by simp)) (by simp)
    | cons y t =>
      rw [List.pairwise_cons] at ha hb
      have hxy : x = y := by
        have h1 := (h x).1 (by simp)
        have h2 := (h y).2 (by simp)
        rw [List.mem_cons] at h1 h2
        rcases h1 with h1 | h1
        · exact h1
        · rcases h2 with h2 | h2
          · exact h2.symm
          · have := hb.1 x h1; have := ha.1 y h2; omega
      subst hxy
      congr 1
      refine rise_eq ha.2 hb.2 fun z => ?_
      have hz := h z
      rw [List.mem_cons, List.mem_cons] at hz
      constructor
      · intro hm
        rcases hz.1 (Or.inr hm) with rfl | hm'
        · exact absurd (ha.1 z hm) (by omega)
        · exact hm'
      · intro hm
        rcases hz.2 (Or.inr hm) with rfl | hm'
        · exact absurd (hb.1 z hm) (by omega)
        · exact hm'
theorem cls_iff {cs : List (Int × Int × Int)} {c : Int} : cls cs c = true ↔ ∃ i ∈ cs, i.1 = 33 ∧ i.2.1 = c := by simp [cls]
theorem of_eq (n : Nat) (cs : List (Int × Int × Int)) : Lib.compact (srt (tg n cs)) = (ofN n cs).map Int.ofNat := by
  obtain ⟨h1, h2⟩ := compact_spec (srt_sorted (tg n cs))
  refine rise_eq h1 ?_ fun x => ?_
  · rw [List.pairwise_map]
    have : (ofN n cs).Pairwise (· < ·) := List.pairwise_lt_range.filter _
    exact this.imp (fun h => by show (Int.ofNat _) < Int.ofNat _; simp; omega)
  · rw [h2, srt_mem]
    unfold tg ofN
    rw [List.mem_map, List.mem_map]
    constructor
    · rintro ⟨i, hi, rfl⟩
      rw [List.mem_filter] at hi
      simp only [Bool.and_eq_true, decide_eq_true_eq] at hi
      refine ⟨i.2.1.toNat, ?_, by simp; omega⟩
      rw [List.mem_filter, List.mem_range]
      refine ⟨by omega, cls_iff.2 ⟨i, hi.1, hi.2.1.1, by omega⟩⟩
    · rintro ⟨c, hc, rfl⟩
      rw [List.mem_filter, List.mem_range] at hc
      obtain ⟨i, hi, h3, h4⟩ := cls_iff.1 hc.2
      refine ⟨i, ?_, h4⟩
      rw [List.mem_filter]
      simp only [Bool.and_eq_true, decide_eq_true_eq]
      exact ⟨hi, ⟨h3, by omega⟩, by omega⟩
theorem tg_len (n : Nat) (cs : List (Int × Int × Int)) : (tg n cs).length ≤ cs.length := by
  unfold tg
  rw [List.length_map]
  exact List.length_filter_le _ _
theorem tg_snoc (n : Nat) (cs : List (Int × Int × Int)) (i : Int × Int × Int) : tg n (cs ++ [i]) = if i.1 = 33 ∧ 0 ≤ i.2.1 ∧ i.2.1 < (n : Int) then tg n cs ++ [i.2.1] else tg n cs := by
  unfold tg
  rw [List.filter_append, List.map_append]
  by_cases h : i.1 = 33 ∧ 0 ≤ i.2.1 ∧ i.2.1 < (n : Int)
  · rw [if_pos h]; congr 1; simp [h]
  · rw [if_neg h]
    have : (decide (i.1 = 33) && decide (0 ≤ i.2.1) && decide (i.2.1 < (n : Int))) = false := by
      simp only [Bool.and_eq_false_iff, decide_eq_false_iff_not]
      by_cases h1 : i.1 = 33
      · by_cases h2 : 0 ≤ i.2.1
        · exact Or.inr (fun h3 => h ⟨h1, h2, h3⟩)
        · exact Or.inl (Or.inr h2)
      · exact Or.inl (Or.inl h1)
    simp [this]
theorem ofN_lt {n : Nat} {cs : List (Int × Int × Int)} {c : Nat} (h : c ∈ ofN n cs) : c < n := by
  unfold ofN at h
  rw [List.mem_filter, List.mem_range] at h
  exact h.1
theorem ofN_len (n : Nat) (cs : List (Int × Int × Int)) : (ofN n cs).length ≤ n := by
  unfold ofN
  have h := List.length_filter_le (fun c : Nat => cls cs (c : Int)) (List.range n)
  rwa [List.length_range] at h
/-- u may be put next -/
def rdy (C : List (List Nat)) (out : List Nat) (u : Nat) : Bool := !out.contains u && (C.getD u []).all fun v => out.contains v
def readyF (C : List (List Nat)) (out : List Nat) : Option Nat := (List.range C.length).find? (rdy C out)
/-- the order from some that are put on -/
def ordF (C : List (List Nat)) : Nat → List Nat → Option (List Nat)
  | 0, out => some out
  | k + 1, out => match readyF C out with
    | none => none
    | some u => ordF C k (out ++ [u])
theorem ready_some {C : List (List Nat)} {out : List Nat} {u : Nat} (h : readyF C out = some u) : u < C.length ∧ u ∉ out ∧ ∀ v ∈ C.getD u [], v ∈ out := by
  obtain ⟨h1, h2, _⟩ := List.find?_range_eq_some.1 h
  rw [rdy, Bool.and_eq_true, List.all_eq_true] at h1
  refine ⟨List.mem_range.1 h2, ?_, fun v hv => by have := h1.2 v hv; simpa using this⟩
  have := h1.1
  simpa using this
/-- right as far as it goes: each once, behind all that it calls -/
structure Good (C : List (List Nat)) (out : List Nat) : Prop where
  nd : out.Nodup
  lt : ∀ u ∈ out, u < C.length
  ahead : ∀ i (h : i < out.length), ∀ v ∈ C.getD out[i] [], v ∈ out.take i
theorem Good.nil (C : List (List Nat)) : Good C [] := ⟨by simp, by simp, fun i h => by simp at h⟩
theorem Good.step {C : List (List Nat)} {out : List Nat} {u : Nat} (h : Good C out) (hu : readyF C out = some u) : Good C (out ++ [u]) := by
  obtain ⟨h1, h2, h3⟩ := ready_some hu
  refine ⟨?_, ?_, ?_⟩
  · rw [List.nodup_append]
    refine ⟨h.nd, by simp, fun a ha b hb => ?_⟩
    rw [List.mem_singleton] at hb; subst hb
    rintro rfl; exact h2 ha
  · intro v hv
    rw [List.mem_append, List.mem_singleton] at hv
    rcases hv with hv | rfl
    · exact h.lt v hv
    · exact h1
  · intro i hi v hv
    rw [List.length_append, List.length_singleton] at hi
    by_cases e : i < out.length
    · rw [List.getElem_append_left e] at hv
      rw [List.take_append_of_le_length (by omega)]
      exact h.ahead i e v hv
    · obtain rfl : i = out.length := by omega
      rw [List.getElem_append_right (by omega)] at hv
      simp only [Nat.sub_self, List.getElem_cons_zero] at hv
      rw [List.take_append_of_le_length (by omega), List.take_of_length_le (by omega)]
      exact h3 v hv
theorem ordF_good {C : List (List Nat)} : ∀ {k : Nat} {out r : List Nat}, Good C out → ordF C k out = some r → Good C r ∧ r.length = out.length + k
  | 0, out, r, h, hr => by
    have e : out = r := by simpa [ordF] using hr
    subst e; exact ⟨h, by omega⟩
  | k + 1, out, r, h, hr => by
    unfold ordF at hr
    split at hr
    · cases hr
    · rename_i u hu
      obtain ⟨h1, h2⟩ := ordF_good (h.step hu) hr
      refine ⟨h1, ?_⟩
      rw [h2, List.length_append, List.length_singleton]; omega
/-- stuck: some that isn't put calls one that isn't put -/
theorem ordF_none {C : List (List Nat)} : ∀ {k : Nat} {out : List Nat}, Good C out → out.length + k = C.length → ordF C k out = none → ∃ S : List Nat, Good C S ∧ S.length < C.length ∧ readyF C S = none
  | 0, out, h, _, hr => by simp [ordF] at hr
  | k + 1, out, h, hl, hr => by
    unfold ordF at hr
    split at hr
    · rename_i hu; exact ⟨out, h, by omega, hu⟩
    · rename_i u hu
      exact ordF_none (h.step hu) (by rw [List.length_append, List.length_singleton]; omega) hr
/-- how deep one calls, where those that it calls are known -/
def topD (D : List Nat) (l : List Nat) : Nat := l.foldl (fun m v => max m (D.getD v 0)) 0
def depF (C : List (List Nat)) (D : List Nat) (l : List Nat) : List Nat := l.foldl (fun D u => D.set u (topD D (C.getD u []) + 1)) D
theorem depF_len (C : List (List Nat)) : ∀ (l D : List Nat), (depF C D l).length = D.length
  | [], D => rfl
  | u :: t, D => by
    show (depF C (D.set u _) t).length = _
    rw [depF_len C t, List.length_set]
theorem depF_snoc (C : List (List Nat)) (D l : List Nat) (u : Nat) : depF C D (l ++ [u]) = (depF C D l).set u (topD (depF C D l) (C.getD u []) + 1) := by
  unfold depF
  rw [List.foldl_append]
  rfl
theorem depF_other (C : List (List Nat)) {v : Nat} : ∀ (l D : List Nat), v ∉ l → (depF C D l).getD v 0 = D.getD v 0
  | [], D, _ => rfl
  | u :: t, D, h => by
    show (depF C (D.set u _) t).getD v 0 = _
    rw [depF_other C t _ (fun hv => h (List.mem_cons_of_mem _ hv))]
    have : ¬ u = v := fun e => h (by rw [e]; simp)
    simp [List.getD, List.getElem?_set, this]
theorem topD_snoc (D l : List Nat) (v : Nat) : topD D (l ++ [v]) = max (topD D l) (D.getD v 0) := by
  unfold topD
  rw [List.foldl_append]
  rfl
end CL
end Go.Proofs.YtefejcofmopjfaaGreatDoor

/- Layer 21, plain: ways by calls, as they are found by taking in one place after another; an order is there just where there is no circle. -/
namespace Go.Proofs.YtefejcofmopjfaaGreatDoor
namespace CL
set_option linter.unusedSimpArgs false
set_option linter.unusedVariables false
/-- ways of one call or more, among the first n -/
inductive TG (E : Nat → Nat → Bool) (n : Nat) : Nat → Nat → Prop
  | one {i j : Nat} (h : E i j = true) (hj : j < n) : TG E n i j
  | more {i k j : Nat} (h : E i k = true) (hk : k < n) (t : TG E n k j) : TG E n i j
theorem TG.trans {E : Nat → Nat → Bool} {n i k j : Nat} (h : TG E n i k) (t : TG E n k j) : TG E n i j := by
  induction h with
  | one h hj => exact .more h hj t
  | more h hk _ ih => exact .more h hk (ih t)
/-- ways whose places between are among the first k -/
def Wk (E : Nat → Nat → Bool) : Nat → Nat → Nat → Prop
  | 0, i, j => E i j = true
  | k + 1, i, j => Wk E k i j ∨ (Wk E k i k ∧ Wk E k k j)
theorem Wk.join {E : Nat → Nat → Bool} : ∀ {k a b c : Nat}, b < k → Wk E k a b → Wk E k b c → Wk E k a c
  | 0, _, _, _, h, _, _ => by omega
  | k + 1, a, b, c, hb, h1, h2 => by
    have tl : ∀ {x : Nat}, Wk E (k + 1) x k → Wk E k x k := fun h => h.elim id (fun h => h.1)
    have hd : ∀ {x : Nat}, Wk E (k + 1) k x → Wk E k k x := fun h => h.elim id (fun h => h.2)
    by_cases e : b = k
    · subst e
      exact Or.inr ⟨tl h1, hd h2⟩
    · have hb' : b < k := by omega
      rcases h1 with h1 | ⟨h1, h1'⟩
      · rcases h2 with h2 | ⟨h2, h2'⟩
        · exact Or.inl (Wk.join hb' h1 h2)
        · exact Or.inr ⟨Wk.join hb' h1 h2, h2'⟩
      · rcases h2 with h2 | ⟨h2, h2'⟩
        · exact Or.inr ⟨h1, Wk.join hb' h1' h2⟩
        · exact Or.inr ⟨h1, h2'⟩
theorem Wk.of_E {E : Nat → Nat → Bool} {i j : Nat} (h : E i j = true) : ∀ k, Wk E k i j
  | 0 => h
  | k + 1 => Or.inl (Wk.of_E h k)
theorem TG.wk {E : Nat → Nat → Bool} {n i j : Nat} (h : TG E n i j) : Wk E n i j := by
  induction h with
  | one h _ => exact Wk.of_E h n
  | more h hk _ ih => exact Wk.join hk (Wk.of_E h n) ih
/-- what is known of the ways ahead of a step -/
structure Inv (E : Nat → Nat → Bool) (n k u c : Nat) (M : Nat → Nat → Bool) : Prop where
  snd : ∀ i j, i < n → j < n → M i j = true → TG E n i j
  old : ∀ i j, i < n → j < n → Wk E k i j → M i j = true
  new : ∀ i j, i < n → j < n → (i < u ∨ (i = u ∧ j < c)) → Wk E (k + 1) i j → M i j = true
def upM (M : Nat → Nat → Bool) (u c : Nat) (x : Bool) : Nat → Nat → Bool := fun i j => if i = u ∧ j = c then x else M i j
def wX (M : Nat → Nat → Bool) (k u c : Nat) : Bool := M u c || (M u k && M k c)
theorem Inv.start {E : Nat → Nat → Bool} {n : Nat} {M : Nat → Nat → Bool} (h : ∀ i j, i < n → j < n → M i j = E i j) : Inv E n 0 0 0 M :=
  ⟨fun i j hi hj hM => .one (by rw [← h i j hi hj]; exact hM) hj, fun i j hi hj hw => by rw [h i j hi hj]; exact hw, fun i j _ _ h _ => by omega⟩
theorem Inv.step {E : Nat → Nat → Bool} {n k u c : Nat} {M : Nat → Nat → Bool} (h : Inv E n k u c M) (hk : k < n) (hu : u < n) (hc : c < n) : Inv E n k u (c + 1) (upM M u c (wX M k u c)) := by
  refine ⟨fun i j hi hj hM => ?_, fun i j hi hj hw => ?_, fun i j hi hj hlt hw => ?_⟩
  · unfold upM at hM
    split at hM
    · rename_i e
      obtain ⟨rfl, rfl⟩ := e
      unfold wX at hM
      rw [Bool.or_eq_true, Bool.and_eq_true] at hM
      rcases hM with hM | ⟨h1, h2⟩
      · exact h.snd _ _ hi hj hM
      · exact (h.snd _ _ hi hk h1).trans (h.snd _ _ hk hj h2)
    · exact h.snd i j hi hj hM
  · have h1 := h.old i j hi hj hw
    unfold upM
    split
    · rename_i e
      obtain ⟨rfl, rfl⟩ := e
      unfold wX; rw [h1]; rfl
    · exact h1
  · unfold upM
    split
    · rename_i e
      obtain ⟨rfl, rfl⟩ := e
      unfold wX
      rcases hw with hw | ⟨h1, h2⟩
      · rw [h.old _ _ hi hj hw]; rfl
      · rw [h.old _ _ hi hk h1, h.old _ _ hk hj h2]; simp
    · rename_i e
      exact h.new i j hi hj (by omega) hw
theorem Inv.row {E : Nat → Nat → Bool} {n k u : Nat} {M : Nat → Nat → Bool} (h : Inv E n k u n M) : Inv E n k (u + 1) 0 M :=
  ⟨h.snd, h.old, fun i j hi hj hlt hw => h.new i j hi hj (by omega) hw⟩
theorem Inv.next {E : Nat → Nat → Bool} {n k : Nat} {M : Nat → Nat → Bool} (h : Inv E n k n 0 M) : Inv E n (k + 1) 0 0 M :=
  ⟨h.snd, fun i j hi hj hw => h.new i j hi hj (Or.inl hi) hw, fun i j _ _ hlt _ => by omega⟩
theorem Inv.fin {E : Nat → Nat → Bool} {n : Nat} {M : Nat → Nat → Bool} (h : Inv E n n 0 0 M) {i j : Nat} (hi : i < n) (hj : j < n) : M i j = true ↔ TG E n i j :=
  ⟨h.snd i j hi hj, fun t => h.old i j hi hj t.wk⟩
/-- whom one calls -/
def Ec (C : List (List Nat)) (u c : Nat) : Bool := (C.getD u []).contains c
theorem good_tg {C : List (List Nat)} {o : List Nat} (h : Good C o) {n u c : Nat} (t : TG (Ec C) n u c) : ∀ i (hi : i < o.length), o[i] = u → c ∈ o.take i := by
  induction t with
  | one he _ =>
    intro i hi e
    refine h.ahead i hi _ ?_
    rw [e]; simpa [Ec] using he
  | more he _ _ ih =>
    intro i hi e
    have hm := h.ahead i hi _ (by rw [e]; simpa [Ec] using he)
    obtain ⟨j, hj, hje⟩ := List.getElem_of_mem hm
    rw [List.length_take] at hj
    rw [List.getElem_take] at hje
    have h2 := ih j (by omega) hje
    exact List.take_subset_take_left _ (by omega) h2
theorem good_apart {C : List (List Nat)} {o : List Nat} (h : Good C o) {n i k : Nat} (hik : i ≤ k) (hk : k < o.length) : ¬ TG (Ec C) n (o[i]'(by omega)) o[k] := by
  intro t
  have hm := good_tg h t i (by omega) rfl
  obtain ⟨j, hj, hje⟩ := List.getElem_of_mem hm
  rw [List.length_take] at hj
  rw [List.getElem_take] at hje
  exact List.pairwise_iff_getElem.1 h.nd j k (by omega) hk (by omega) hje
theorem stuck_circle {C : List (List Nat)} (hC : ∀ l ∈ C, ∀ x ∈ l, x < C.length) {S : List Nat} (h : Good C S) (hl : S.length < C.length) (hr : readyF C S = none) : ∃ u, u < C.length ∧ TG (Ec C) C.length u u := by
  have hnx : ∀ u, u < C.length → u ∉ S → ∃ v, v < C.length ∧ v ∉ S ∧ Ec C u v = true := by
    intro u hu hs
    have h1 := List.find?_eq_none.1 hr u (List.mem_range.2 hu)
    have h2 : (C.getD u []).all (fun v => S.contains v) = false := by
      cases h3 : (C.getD u []).all (fun v => S.contains v)
      · rfl
      · exact absurd (by simp [rdy, hs]; simpa using h3) h1
    rw [List.all_eq_false] at h2
    obtain ⟨v, hv, hvs⟩ := h2
    have hcu : C.getD u [] = C[u] := by simp [List.getD, hu]
    refine ⟨v, hC _ (List.getElem_mem hu) v (by rw [← hcu]; exact hv), by simpa using hvs, by simpa [Ec] using hv⟩
  obtain ⟨u0, hu0, hs0⟩ : ∃ u, u < C.length ∧ u ∉ S := by
    apply Classical.byContradiction
    intro hall
    have := List.Nodup.length_le_of_subset (List.nodup_range (n := C.length)) (l₂ := S) (fun x hx => Classical.byContradiction fun hn => hall ⟨x, List.mem_range.1 hx, hn⟩)
    rw [List.length_range] at this
    omega
  have hpick : ∃ f : Nat → Nat, ∀ u, u < C.length → u ∉ S → f u < C.length ∧ f u ∉ S ∧ Ec C u (f u) = true := by
    refine ⟨fun u => if hh : u < C.length ∧ u ∉ S then Classical.choose (hnx u hh.1 hh.2) else 0, fun u h1 h2 => ?_⟩
    simp only [h1, h2, not_false_eq_true, and_self, dite_true]
    exact Classical.choose_spec (hnx u h1 h2)
  obtain ⟨f, hf⟩ := hpick
  let s : Nat → Nat := fun k => Nat.rec u0 (fun _ x => f x) k
  have hs : ∀ k, s k < C.length ∧ s k ∉ S := by
    intro k
    induction k with
    | zero => exact ⟨hu0, hs0⟩
    | succ k ih => exact ⟨(hf _ ih.1 ih.2).1, (hf _ ih.1 ih.2).2.1⟩
  have he : ∀ k, Ec C (s k) (s (k + 1)) = true := fun k => (hf _ (hs k).1 (hs k).2).2.2
  have hway : ∀ d i, TG (Ec C) C.length (s i) (s (i + (d + 1))) := by
    intro d
    induction d with
    | zero => intro i; exact .one (he i) (hs (i + 1)).1
    | succ d ih =>
      intro i
      refine .more (he i) (hs (i + 1)).1 ?_
      have := ih (i + 1)
      rwa [show i + 1 + (d + 1) = i + (d + 1 + 1) by omega] at this
  have hdup : ¬ ((List.range (C.length + 1)).map s).Nodup := by
    intro hn
    have := List.Nodup.length_le_of_subset hn (l₂ := List.range C.length) (fun x hx => by
      obtain ⟨k, _, rfl⟩ := List.mem_map.1 hx
      exact List.mem_range.2 (hs k).1)
    simp at this
    omega
  have : ∃ i j, i < j ∧ s i = s j := by
    apply Classical.byContradiction
    intro hno
    refine hdup (List.pairwise_iff_getElem.2 fun i j hi hj hij => ?_)
    simp only [List.getElem_map, List.getElem_range]
    exact fun e => hno ⟨i, j, hij, e⟩
  obtain ⟨i, j, hij, e⟩ := this
  refine ⟨s i, (hs i).1, ?_⟩
  have := hway (j - i - 1) i
  rwa [show i + (j - i - 1 + 1) = j by omega, ← e] at this
theorem circle_iff {C : List (List Nat)} (hC : ∀ l ∈ C, ∀ x ∈ l, x < C.length) : (ordF C C.length []).isSome = true ↔ ¬ ∃ u, u < C.length ∧ TG (Ec C) C.length u u := by
  cases h : ordF C C.length [] with
  | none =>
    obtain ⟨S, h1, h2, h3⟩ := ordF_none (Good.nil C) (by simp) h
    constructor
    · intro h; cases h
    · intro h'; exact absurd (stuck_circle hC h1 h2 h3) h'
  | some o =>
    obtain ⟨hg, hl⟩ := ordF_good (Good.nil C) h
    refine ⟨fun _ => ?_, fun _ => rfl⟩
    rintro ⟨u, hu, t⟩
    have hm : u ∈ o := by
      apply Classical.byContradiction
      intro hn
      have := List.Nodup.length_le_of_subset (l₁ := u :: o) (l₂ := List.range C.length) (List.nodup_cons.2 ⟨hn, hg.nd⟩) (fun x hx => by
        rcases List.mem_cons.1 hx with rfl | hx
        · exact List.mem_range.2 hu
        · exact List.mem_range.2 (hg.lt x hx))
      simp at this hl
      omega
    obtain ⟨i, hi, e⟩ := List.getElem_of_mem hm
    exact good_apart hg (Nat.le_refl i) hi (by rw [e]; exact t)
end CL
end Go.Proofs.YtefejcofmopjfaaGreatDoor

/- Layer 22, plain: an order is there still when the last units are left out. -/
namespace Go.Proofs.YtefejcofmopjfaaGreatDoor
open CL (ofN ordF TG Ec circle_iff)
set_option linter.unusedSimpArgs false
set_option linter.unusedVariables false
def callsF (L : List Un) : List (List Nat) := L.map fun x => ofN L.length x.code
theorem callsF_lt {L : List Un} : ∀ l ∈ callsF L, ∀ x ∈ l, x < (callsF L).length := by
  intro l hl x hx
  unfold callsF at hl ⊢
  rw [List.length_map]
  obtain ⟨y, _, rfl⟩ := List.mem_map.1 hl
  exact CL.ofN_lt hx
theorem TG.widen {E F : Nat → Nat → Bool} {n m : Nat} (hm : n ≤ m) (h : ∀ i j, E i j = true → F i j = true) {i j : Nat} (t : TG E n i j) : TG F m i j := by
  induction t with
  | one e hj => exact .one (h _ _ e) (by omega)
  | more e hk _ ih => exact .more (h _ _ e) (by omega) ih
theorem ord_take {L : List Un} {n : Nat} (hn : n ≤ L.length) (h : (ordF (callsF L) L.length []).isSome = true) : (ordF (callsF (L.take n)) n []).isSome = true := by
  have e1 : (callsF L).length = L.length := by simp [callsF]
  have e2 : (callsF (L.take n)).length = n := by simp [callsF]; omega
  have h1 := (circle_iff (C := callsF L) callsF_lt).1 (by rw [e1]; exact h)
  have h2 := (circle_iff (C := callsF (L.take n)) callsF_lt).2
  rw [e2] at h2
  refine h2 ?_
  rintro ⟨u, hu, t⟩
  refine h1 ⟨u, by rw [e1]; omega, ?_⟩
  rw [e1]
  refine TG.widen hn (fun i j hE => ?_) t
  unfold Ec at hE ⊢
  have hj : j ∈ (callsF (L.take n)).getD i [] := by simpa using hE
  have hi : i < n := by
    apply Classical.byContradiction
    intro hi
    rw [List.getD, List.getElem?_eq_none (by rw [e2]; omega)] at hj
    simp at hj
  obtain ⟨x, hx⟩ : ∃ x, L[i]? = some x := ⟨L[i]'(by omega), List.getElem?_eq_getElem (by omega)⟩
  have hx' : (L.take n)[i]? = some x := by rw [List.getElem?_take_of_lt hi]; exact hx
  have g1 : (callsF (L.take n)).getD i [] = ofN n x.code := by
    unfold callsF
    rw [List.getD, List.getElem?_map, hx', List.length_take, Nat.min_eq_left hn]; rfl
  have g2 : (callsF L).getD i [] = ofN L.length x.code := by
    unfold callsF
    rw [List.getD, List.getElem?_map, hx]; rfl
  rw [g1] at hj
  rw [g2]
  unfold ofN at hj ⊢
  rw [List.mem_filter, List.mem_range] at hj
  have : j ∈ (List.range L.length).filter (fun c : Nat => CL.cls x.code (c : Int)) := by
    rw [List.mem_filter, List.mem_range]
    exact ⟨by omega, hj.2⟩
  simpa using this
end Go.Proofs.YtefejcofmopjfaaGreatDoor

/- Layer 22, plain: what is accepted; with a constant more; without the last unit. -/
namespace Go.Proofs.YtefejcofmopjfaaGreatDoor
open Go.RowKit
open CL (ordF)
set_option linter.unusedSimpArgs false
set_option linter.unusedVariables false
/-- what typing.Entries tells: the place and the error -/
def entT (p : Pr) (u : Int) : Int × Int :=
  if (chkP p u).2 ≠ 0 then chkP p u else match TY.entF (tyE p u (unAt p u).code) ((unAt p u).code.length + 1) (TY.start (unAt p u).code.length) with
    | some r => if r.2.1 ≠ 0 then (r.1, r.2.1) else (0, 0)
    | none => (0, 1)
theorem entT_zero {p : Pr} {u : Int} : (entT p u).2 = 0 ↔ entOk p u := by
  unfold entT entOk
  by_cases h : (chkP p u).2 = 0
  · rw [if_neg (fun x => x h)]
    cases hr : TY.entF (tyE p u (unAt p u).code) ((unAt p u).code.length + 1) (TY.start (unAt p u).code.length) with
    | none => simp
    | some r =>
      by_cases h2 : r.2.1 = 0
      · simp [h, h2]
      · simp [h2]
  · rw [if_pos h]
    exact ⟨fun x => absurd x h, fun x => absurd x.1 h⟩
theorem entQ_told {p : Pr} {u : Int} {w w' : World} {e : Ending} (h : EntQ p u w e w') : (∃ a b, e = .returned (.tuple #[a, b, .int .i64 (entT p u).1, .int .i64 (entT p u).2])) ∧ Below w.heap.size w w' := by
  obtain ⟨hb, h | h⟩ := h
  · obtain ⟨h1, rfl⟩ := h
    exact ⟨⟨_, _, by unfold entT; rw [if_pos h1]⟩, hb⟩
  · obtain ⟨h1, r, hr, h | h⟩ := h
    · obtain ⟨h2, rfl⟩ := h
      exact ⟨⟨.slice none 0 0, .slice none 0 0, by unfold entT; rw [if_neg (fun x => x h1), hr]; simp only [if_pos h2]⟩, hb⟩
    · obtain ⟨h2, vS, vR, rfl, _⟩ := h
      exact ⟨⟨vS, vR, by unfold entT; rw [if_neg (fun x => x h1), hr]; simp only [h2]; rfl⟩, hb⟩
def rightP (p : Pr) : Prop := checkE p = 0 ∧ (∀ k : Nat, k < p.units.length → entOk p k) ∧ (ordF (callsF p.units) p.units.length []).isSome = true
theorem checkE_more {p : Pr} (h : checkE p = 0) (c : Int × Int) (hc : kIn c.1 c.2 = true) (hl : p.consts.length < 1024) : checkE { p with consts := p.consts ++ [c] } = 0 := by
  have hz := firstE_zero h
  have h1 := unlessE_zero (by decide) (hz _ (List.mem_cons_self ..))
  have h2 := unlessE_zero (z := 5) (by decide) (hz (unlessE (decide (p.consts.length ≤ 1024) && (decide (p.vars.length ≤ 64) && decide (p.blocks.length ≤ 32))) 5) (by simp))
  have h3 := allE_zero (hz (allE (p.consts.all fun x => kIn x.1 x.2)) (by simp))
  have h4 : tablesE p.vars p.blocks = 0 := hz _ (by simp)
  have h5 : firstE (unitsL p.units) = 0 := hz _ (by simp)
  simp only [Bool.and_eq_true, decide_eq_true_eq] at h1 h2
  refine firstE_none (fun z hz => ?_)
  simp only [List.mem_cons, List.not_mem_nil, or_false] at hz
  rcases hz with rfl | rfl | rfl | rfl | rfl
  · exact unless_yes (by simp only [Bool.and_eq_true, decide_eq_true_eq]; omega)
  · exact unless_yes (by simp only [Bool.and_eq_true, decide_eq_true_eq, List.length_append, List.length_singleton]; omega)
  · exact all_yes (by rw [List.all_append, h3]; simpa using hc)
  · exact h4
  · exact h5
theorem right_more {p : Pr} (h : rightP p) (hl : p.consts.length < 1024) : rightP { p with consts := p.consts ++ [(6, -1)] } :=
  ⟨checkE_more h.1 _ (by decide) hl, fun k hk => entOk_const _ (h.2.1 k hk), h.2.2⟩
theorem right_less {p : Pr} {n : Nat} (h : rightP p) (h0 : 0 < n) (hn : n + 1 = p.units.length) (hc : ∀ (u : Nat) (x : Un), u < n → p.units[u]? = some x → ∀ i ∈ x.code, ¬ (i.1 = 33 ∧ i.2.1 = n)) : rightP { p with units := p.units.take n } := by
  have hl : (p.units.take n).length = n := by rw [List.length_take]; omega
  refine ⟨?_, fun k hk => ?_, ?_⟩
  · have := checkE_less h.1 p.consts.length p.vars.length p.blocks.length n h0
    rwa [List.take_length, List.take_length, List.take_length] at this
  · have hk' : k < n := by rw [← hl]; exact hk
    have he := h.2.1 k (by omega)
    obtain ⟨x, hx⟩ := get_some (L := p.units) (n := k) (by omega)
    have hux : unAt p k = x := by unfold unAt; simp [List.getD, hx]
    refine entOk_take (by omega) (by omega) (fun i hi h33 => ?_) he
    have hne := hc k x hk' hx i (by rw [← hux]; exact hi)
    obtain ⟨_, hz⟩ := chk_zero he.1
    obtain ⟨j, hj, e⟩ := List.getElem_of_mem hi
    have h1 := err_one (hz j hj)
    have eg : (unAt p k).code.getD j (0, 0, 0) = i := by rw [List.getD, List.getElem?_eq_getElem hj]; exact e
    rw [eg] at h1
    obtain ⟨_, _, h3, _, _, h6⟩ := oneP_parts h1
    have ho : oA i.1 = 7 := by rw [h33]; decide
    unfold thereP at h6
    rw [if_neg (by omega), if_neg (by omega), if_neg (by omega), if_pos ho] at h6
    have := of_decide_eq_true h6
    have h9 : i.2.1 ≠ n := fun x => hne ⟨h33, x⟩
    omega
  · show (ordF (callsF (p.units.take n)) (p.units.take n).length []).isSome = true
    rw [hl]
    exact ord_take (by omega) h.2.2
end Go.Proofs.YtefejcofmopjfaaGreatDoor
