/- Layer 17: copies; what units take, and tell. -/
import Derived.Test.YtogmbfhefblbjaaDeclG
import Derived.Test.YtogmbfhefblbjaaChunkC
import Derived.Test.YtogmbfhefblbjaaHeldTill
import Derived.Laws.OwnMore
namespace Go.Proofs.Ytogmbfhefblbjaa
open Go.RowKit
set_option linter.unusedSimpArgs false
set_option linter.unusedVariables false
theorem clone_var (v : Value) (L : List Vr) (w : World) (hv : RowR 5 varR w v L) (hL : L.length ≤ 2000) (h1 : ∀ cs x, varR w cs x → ∀ u ∈ cs, u.oneCell' = true) :
    Calls Try.prog 38 #[v] w fun e w' => ∃ r, e = .returned r ∧ RowR 5 varR w' r L ∧ Below w.heap.size w w' := by
  obtain ⟨i, z, hi, hz, hsize, hby, hzs⟩ : ∃ i z, Try.prog.info? 45 = some i ∧ i.zero = some z ∧ i.size = 5 ∧ i.bytes = 48 ∧ z.cells.size = 5 := ⟨(Try.prog.info? 45).get!, .agg #[.string ⟨#[]⟩, .int .i64 0, .int .i64 0, .int .i64 0, .int .i64 0], by kernel_rfl, by kernel_rfl, by kernel_rfl, by kernel_rfl, by kernel_rfl⟩
  obtain ⟨CH, hl, hC, hsrc⟩ := row_chunks hv
  have hone := chunks_one (CH := CH) (fun i c hc => by obtain ⟨x, hx⟩ := get_some (L := L) (n := i) (by rw [← hl]; exact lt_of_get hc); exact h1 _ _ (hC i c x hc hx))
  obtain ⟨sv, cv, rfl⟩ := row_get hv
  obtain ⟨m, hm⟩ : ∃ m, L.length = m := ⟨_, rfl⟩
  have HM := Lib.hid hm
  rw [hm] at hsrc hL
  have HL := Lib.hid hl
  have HC := Lib.hid hC
  have HS := Lib.hid hsrc
  clear hl hC hsrc hv h1
  rw [hm]
  clear hm
  go_enter Try.func38, Try.ntmps38
  go_wp2_with (first | (at_builtin; go_loud (refine wpList_append_src rfl (.const (.slice none 0 0)) (.tmp 3) 23 rfl w.heap.size 45 i z 5 48 Try.underlying23 hi hz hsize hby hzs (by omega) (.slice none 0 0) 0 [] rfl (World.ownsRow_nil _ _ _ _) _ m (flatC CH) rfl HS.out (by rw [flatC_len, HL.out, HM.out]) hone (by unfold maxLen; omega) (by omega) (Nat.le_refl _) ?_); intro v2 w2 hO2 hG2; have hb2 := below_none hG2; simp only [Nat.zero_add, List.nil_append] at hO2; have HR := Lib.hid (row_of_chunks hO2 (by rw [HL.out, HM.out]) HL.out (fun i c x hc hx => varR_stable _ _ _ _ (HC.out i c x hc hx) hb2)); obtain ⟨av, cv2, rfl⟩ := owns_form hO2; clear hO2 hG2) | fail)
  go_ret
  exact ⟨_, rfl, HR.out, hb2⟩
theorem clone_blk (v : Value) (L : List Bk) (w : World) (hv : RowR 2 blkR w v L) (hL : L.length ≤ 2000) (h1 : ∀ cs x, blkR w cs x → ∀ u ∈ cs, u.oneCell' = true) :
    Calls Try.prog 39 #[v] w fun e w' => ∃ r, e = .returned r ∧ RowR 2 blkR w' r L ∧ Below w.heap.size w w' := by
  obtain ⟨i, z, hi, hz, hsize, hby, hzs⟩ : ∃ i z, Try.prog.info? 47 = some i ∧ i.zero = some z ∧ i.size = 2 ∧ i.bytes = 24 ∧ z.cells.size = 2 := ⟨(Try.prog.info? 47).get!, .agg #[.string ⟨#[]⟩, .int .i64 0], by kernel_rfl, by kernel_rfl, by kernel_rfl, by kernel_rfl, by kernel_rfl⟩
  obtain ⟨CH, hl, hC, hsrc⟩ := row_chunks hv
  have hone := chunks_one (CH := CH) (fun i c hc => by obtain ⟨x, hx⟩ := get_some (L := L) (n := i) (by rw [← hl]; exact lt_of_get hc); exact h1 _ _ (hC i c x hc hx))
  obtain ⟨sv, cv, rfl⟩ := row_get hv
  obtain ⟨m, hm⟩ : ∃ m, L.length = m := ⟨_, rfl⟩
  have HM := Lib.hid hm
  rw [hm] at hsrc hL
  have HL := Lib.hid hl
  have HC := Lib.hid hC
  have HS := Lib.hid hsrc
  clear hl hC hsrc hv h1
  rw [hm]
  clear hm
  go_enter Try.func39, Try.ntmps39
  go_wp2_with (first | (at_builtin; go_loud (refine wpList_append_src rfl (.const (.slice none 0 0)) (.tmp 3) 24 rfl w.heap.size 47 i z 2 24 Try.underlying24 hi hz hsize hby hzs (by omega) (.slice none 0 0) 0 [] rfl (World.ownsRow_nil _ _ _ _) _ m (flatC CH) rfl HS.out (by rw [flatC_len, HL.out, HM.out]) hone (by unfold maxLen; omega) (by omega) (Nat.le_refl _) ?_); intro v2 w2 hO2 hG2; have hb2 := below_none hG2; simp only [Nat.zero_add, List.nil_append] at hO2; have HR := Lib.hid (row_of_chunks hO2 (by rw [HL.out, HM.out]) HL.out (fun i c x hc hx => blkR_stable _ _ _ _ (HC.out i c x hc hx) hb2)); obtain ⟨av, cv2, rfl⟩ := owns_form hO2; clear hO2 hG2) | fail)
  go_ret
  exact ⟨_, rfl, HR.out, hb2⟩
theorem clone_int (v : Value) (L : List Int) (w : World) (hv : RowR 1 intR w v L) (hL : L.length ≤ 2000) :
    Calls Try.prog 46 #[v] w fun e w' => ∃ r, e = .returned r ∧ w'.ownsRow w.heap.size 3 1 r L.length (iV L) ∧ Below w.heap.size w w' := by
  obtain ⟨i, hi, hz, hsize, hby⟩ : ∃ i, Try.prog.info? 3 = some i ∧ i.zero = some (.int .i64 0) ∧ i.size = 1 ∧ i.bytes = 8 := ⟨(Try.prog.info? 3).get!, by kernel_rfl, by kernel_rfl, by kernel_rfl, by kernel_rfl⟩
  have hsrc := src_ints hv
  obtain ⟨sv, cv, rfl⟩ := row_get hv
  obtain ⟨m, hm⟩ : ∃ m, L.length = m := ⟨_, rfl⟩
  have HM := Lib.hid hm
  rw [hm] at hsrc hL
  have HS := Lib.hid hsrc
  clear hsrc hv
  rw [hm]
  clear hm
  go_enter Try.func46, Try.ntmps46
  go_wp2_with (first | (at_builtin; go_loud (refine wpList_append_src rfl (.const (.slice none 0 0)) (.tmp 3) 35 rfl w.heap.size 3 i (.int .i64 0) 1 8 Try.underlying35 hi hz hsize hby rfl (by omega) (.slice none 0 0) 0 [] rfl (World.ownsRow_nil _ _ _ _) _ m (iV L) rfl HS.out (by rw [iV_len, HM.out]; omega) (iV_one L) (by unfold maxLen; omega) (by omega) (Nat.le_refl _) ?_); intro v2 w2 hO2 hG2; have hb2 := below_none hG2; simp only [Nat.zero_add, List.nil_append] at hO2; obtain ⟨av, cv2, rfl⟩ := owns_form hO2; have HO2 := Lib.hid hO2; clear hO2 hG2) | fail)
  go_ret
  exact ⟨_, rfl, HO2.out, hb2⟩
def sigR : Rep (List Int × Int) := fun w cs s => ∃ a, cs = [a, .int .i64 s.2] ∧ RowR 1 intR w a s.1
theorem sigR_stable : Stable sigR := fun _ _ _ _ ⟨a, h1, h2⟩ hb => ⟨a, h1, h2.below intR_stable hb⟩
def sigC (U : List Value) (us : List Un) : List (Chunk 2) := List.zipWith (fun u (x : Un) => ⟨[u, .int .i64 x.result], rfl⟩) U us
theorem sigC_snoc (U : List Value) (us : List Un) (u : Value) (x : Un) (h : U.length = us.length) : flatC (sigC (U ++ [u]) (us ++ [x])) = flatC (sigC U us) ++ [u, .int .i64 x.result] := by
  unfold sigC
  rw [List.zipWith_append h, flatC_app]
  simp [flatC]
theorem sigs_row {w : World} {B C : Nat} {U : List Value} {us : List Un} {v : Value} {n : Nat} (hn : n = us.length) (hR : OwnRows B 3 w U (us.map Un.params)) (hO : w.ownsRow C 72 2 v n (flatC (sigC U us))) (hI : ∀ x ∈ us, ∀ z ∈ x.params, I64 z) : RowR 2 sigR w v (us.map fun x => (x.params, x.result)) := by
  have hlen : U.length = us.length := by have := hR.len; simpa using this
  have hcl : (sigC U us).length = us.length := by simp [sigC, hlen]
  refine row_of_chunks hO (by rw [hcl, hn]) (by simp [hcl]) (fun i c y hc hy => ?_)
  rw [List.getElem?_map] at hy
  obtain ⟨x, hx, rfl⟩ := Option.map_eq_some_iff.1 hy
  obtain ⟨u, hu⟩ := get_some (L := U) (n := i) (by rw [hlen]; exact lt_of_get hx)
  have hcc : c = ⟨[u, .int .i64 x.result], rfl⟩ := by
    unfold sigC at hc
    rw [List.getElem?_zipWith, hu, hx] at hc
    injection hc with hc
    exact hc.symm
  subst hcc
  exact ⟨u, rfl, row_of_owns (hR.row i u x.params hu (by rw [List.getElem?_map, hx]; rfl)) (hI x (List.mem_of_getElem? hx))⟩
/-- what units take and tell, in rows of the call's own -/
def SigsO (B : Nat) (w : World) (v : Value) (us : List Un) : Prop := ∃ U, OwnRows B 3 w U (us.map Un.params) ∧ w.ownsRow B 72 2 v us.length (flatC (sigC U us))
theorem units_int {w : World} {a : Option Addr} {n c : Nat} {us : List Un} (hv : RowR 5 unitR w (.slice a n c) us) (x : Un) (hx : x ∈ us) : ∀ z ∈ x.params, I64 z := by
  obtain ⟨k, hk, rfl⟩ := List.getElem_of_mem hx
  obtain ⟨_, _, _, _, hc⟩ := unit_at hv hk
  obtain ⟨_, _, _, _, _, _, _, _, hU⟩ := hc k us[k] (by simp [hk])
  exact row_ints hU.ps
set_option maxHeartbeats 8000000 in
theorem decl_SigsO (v : Value) (us : List Un) (w : World) (hv : RowR 5 unitR w v us) (hf : ∀ x ∈ us, fewU x = true) (hn : us.length ≤ 10) :
    Calls Try.prog 17 #[v] w fun e w' => ∃ r, e = .returned r ∧ SigsO w.heap.size w' r us ∧ Below w.heap.size w w' := by
  obtain ⟨i, zz, hi, hz, hsize, hby, hzs⟩ : ∃ i z, Try.prog.info? 72 = some i ∧ i.zero = some z ∧ i.size = 2 ∧ i.bytes = 32 ∧ z.cells.size = 2 := ⟨(Try.prog.info? 72).get!, .agg #[.slice none 0 0, .int .i64 0], by kernel_rfl, by kernel_rfl, by kernel_rfl, by kernel_rfl, by kernel_rfl⟩
  obtain ⟨sv, cv, rfl⟩ := row_get hv
  obtain ⟨N, hN⟩ : ∃ N, us.length = N := ⟨_, rfl⟩
  have HN := Lib.hid hN
  have HI := Lib.hid (fun (x : Un) (hx : x ∈ us) => (show ∀ z ∈ x.params, I64 z by
    obtain ⟨k, hk, rfl⟩ := List.getElem_of_mem hx
    obtain ⟨_, _, _, _, hc⟩ := unit_at hv hk
    obtain ⟨_, _, _, _, _, _, _, _, hU⟩ := hc k us[k] (by simp [hk])
    exact row_ints hU.ps))
  rw [hN] at hv hn ⊢
  clear hN
  obtain ⟨W0, hmk, hO0, hG0⟩ := run_make_own (P := Try.prog) w w.heap.size 34 72 i zz 2 Try.underlying34 hi hz hsize .i64 .i64 N (by rw [hby]; omega) (by unfold maxLen; omega) (Nat.le_refl _)
  have HB0 := Lib.hid (below_none hG0)
  have HO0 := Lib.hid hO0
  clear hO0 hG0
  go_enter Try.func17, Try.ntmps17
  go_wp2_with fail
  go_loopw [3, 11] (fun so jj wr => ∃ (k : Nat) (U : List Value), k ≤ N ∧ jj = .int .i64 k ∧ Hid (wr.ownsRow w.heap.size 72 2 so k (flatC (sigC U (us.take k)))) ∧ Hid (OwnRows w.heap.size 3 wr U ((us.take k).map Un.params)) ∧ Hid (Below w.heap.size w wr)) (fun _ jj _ => N - (intOf jj).toNat)
  case atStart => exact ⟨0, [], by omega, rfl, HO0, Lib.hid (OwnRows.nil _ _ _), HB0⟩
  case round =>
    clear HO0 HB0
    obtain ⟨k, U, hk, rfl, HO, HR, HB⟩ := hrel
    obtain ⟨ao, co, rfl⟩ := owns_form HO.out
    by_cases hlt : k < N
    · have qk : ((k : Int) < (N : Int)) = True := eq_true (by omega)
      obtain ⟨x, hx⟩ := get_some (L := us) (n := k) (by rw [HN.out]; exact hlt)
      obtain ⟨b, off, rfl, hbw, hc⟩ := unit_at hv (k := k) (by rw [HN.out]; exact hlt)
      obtain ⟨u1, u3, u4, d0, d1, d2, d3, d4, hU⟩ := hc k x hx
      have d0 := (HB.out.cell (p := ⟨b, off + k * 5, none⟩) hbw).trans d0
      have d1 := (HB.out.cell (p := ⟨b, off + k * 5 + 1, none⟩) hbw).trans d1
      have d2 := (HB.out.cell (p := ⟨b, off + k * 5 + 2, none⟩) hbw).trans d2
      have d3 := (HB.out.cell (p := ⟨b, off + k * 5 + 3, none⟩) hbw).trans d3
      have d4 := (HB.out.cell (p := ⟨b, off + k * 5 + 4, none⟩) hbw).trans d4
      have hwr := HB.out.size
      have hfx := hf x (List.mem_of_getElem? hx)
      have hfx' : x.name.length ≤ 300 ∧ x.params.length ≤ 20 ∧ x.locals.length ≤ 1100 ∧ x.code.length ≤ 300 := of_decide_eq_true hfx
      obtain ⟨a1, b1, rfl⟩ := row_get hU.ps
      obtain ⟨a3, b3, rfl⟩ := row_get hU.ls
      obtain ⟨a4, b4, rfl⟩ := row_get hU.cs
      obtain ⟨W1, hW1⟩ : ∃ W1, W1 = wr.alloc (.cells #[.string ⟨x.name.toArray⟩, .slice a1 x.params.length b1, .int .i64 x.result, .slice a3 x.locals.length b3, .slice a4 x.code.length b4] 41) := ⟨_, rfl⟩
      have hb1 : Below wr.heap.size wr W1 := by rw [hW1]; exact by (repeat' (first | (with_reducible exact Below.refl _ _) | (with_reducible assumption) | (with_reducible refine below_drewN ?_ _) | (with_reducible refine Below.alloc ?_ ?_ _) | (with_reducible refine Below.drew ?_) | (with_reducible refine Below.setCell ?_ ?_ _) | go_size))
      have hj1 : W1.heap[wr.heap.size]? = some (.cells #[.string ⟨x.name.toArray⟩, .slice a1 x.params.length b1, .int .i64 x.result, .slice a3 x.locals.length b3, .slice a4 x.code.length b4] 41) := by rw [hW1]; exact get_last rfl
      have e1 := obj_cell hj1 (i := 1) rfl
      have e2 := obj_cell hj1 (i := 2) rfl
      have hBW1 : Below w.heap.size w W1 := HB.out.trans (hb1.mono hwr)
      have hz1 : W1.heap.size = wr.heap.size + 1 := by rw [hW1]; simp
      have zu : wr.heap.size < W1.heap.size := by omega
      have hU1 := hU.below hBW1
      have HOu := Lib.hid (fun W (h : Below W1.heap.size W1 W) => owns_below (owns_below HO.out hb1) h)
      have HRw := Lib.hid (fun W (h : Below W1.heap.size W1 W) => (HR.out.below hb1).below h)
      have HT := Lib.hid (take_snoc hx)
      have HUl := Lib.hid (show U.length = (us.take k).length by have := HR.out.len; simpa using this)
      have HW1 := Lib.hid hW1
      clear hc hx hU hW1 hb1 hj1 hfx
      go_upto_region 5 with fail
      rw [← HW1.out]
      refine wp_region_till (S := (fun (L : Array Bool) (w' : World) => (L.getD 8 true = false → Below W1.heap.size W1 w') ∧ (L.getD 3 true = false → Below W1.heap.size W1 w') ∧ (L.getD 6 true = false → Below W1.heap.size W1 w'))) (by kernel_rfl) ?_ (fun hHeld => ?_)
      · (try dsimp only); first | exact ⟨fun _ => (Below.refl _ _).drew, fun _ => (Below.refl _ _).drew, fun _ => (Below.refl _ _).drew⟩ | exact ⟨fun _ => Below.refl _ _, fun _ => Below.refl _ _, fun _ => Below.refl _ _⟩ | exact ⟨fun _ => hHeldC, fun _ => hHeldC, fun _ => hHeldC⟩
      refine till_take 8 (fun _ => True) (i := 0) (oi := { dst := some 15, op := Op.move (Operand.tmp 3), type := 34, pos := _, after := #[], guard := none }) (u := ?_) rfl (by kernel_rfl) (by kernel_rfl) (by kernel_rfl) (by kernel_rfl) (by kernel_rfl) (by decide) (fun L v hL h => trivial) (fun L v => by simp only [getD_set_ne true (show 0 ≠ 8 by decide), getD_set_ne true (show 0 ≠ 3 by decide), getD_set_ne true (show 0 ≠ 6 by decide)]) (fun _ _ _ h => h) (Or.inl ⟨by rfl, ?_⟩) hHeld ?_
      rotate_left
      · intro wt _; first | (go_simp; done) | (go_simp; with_reducible rfl) | (trace_state; fail)
      clear hHeld; intro hHeld
      try simp only [Act.put, List.setIfInBounds_toArray, List.set_cons_zero, List.set_cons_succ]
      refine till_take 2 (fun _ => True) (i := 1) (oi := { dst := some 16, op := Op.fieldAddr 41 (Operand.tmp 5) 1, type := 0, pos := _, after := #[], guard := none }) (u := ?_) rfl (by kernel_rfl) (by kernel_rfl) (by kernel_rfl) (by kernel_rfl) (by kernel_rfl) (by decide) (fun L v hL h => trivial) (fun L v => by simp only [getD_set_ne true (show 1 ≠ 8 by decide), getD_set_ne true (show 1 ≠ 3 by decide), getD_set_ne true (show 1 ≠ 6 by decide)]) (fun _ _ _ h => h) (Or.inl ⟨by rfl, ?_⟩) hHeld ?_
      rotate_left
      · intro wt _; first | (go_simp; done) | (go_simp; with_reducible rfl) | (trace_state; fail)
      clear hHeld; intro hHeld
      try simp only [Act.put, List.setIfInBounds_toArray, List.set_cons_zero, List.set_cons_succ]
      refine till_take 3 (fun w' => Below W1.heap.size W1 w') (i := 2) (oi := { dst := some 17, op := Op.load 35 (Operand.tmp 16), type := 35, pos := _, after := #[{ on := 1, ground := Ground.data }], guard := none }) (u := ?_) rfl (by kernel_rfl) (by kernel_rfl) (by kernel_rfl) (by kernel_rfl) (by kernel_rfl) (by decide) (fun L v hL h => h.2.1 hL) (fun L v => by simp only [getD_set_ne true (show 2 ≠ 8 by decide), getD_set_ne true (show 2 ≠ 3 by decide), getD_set_ne true (show 2 ≠ 6 by decide)]) (fun _ _ _ h => h) (Or.inl ⟨by rfl, ?_⟩) hHeld ?_
      rotate_left
      · intro wt hSw; (try dsimp only at hSw); have e1 := cellB hSw e1 zu; have e2 := cellB hSw e2 zu; clear hSw; first | (go_simp; done) | (go_simp; with_reducible rfl) | (trace_state; fail)
      clear hHeld; intro hHeld
      try simp only [Act.put, List.setIfInBounds_toArray, List.set_cons_zero, List.set_cons_succ]
      refine till_take 5 (fun _ => True) (i := 4) (oi := { dst := some 19, op := Op.fieldAddr 41 (Operand.tmp 5) 2, type := 0, pos := _, after := #[], guard := none }) (u := ?_) rfl (by kernel_rfl) (by kernel_rfl) (by kernel_rfl) (by kernel_rfl) (by kernel_rfl) (by decide) (fun L v hL h => trivial) (fun L v => by simp only [getD_set_ne true (show 4 ≠ 8 by decide), getD_set_ne true (show 4 ≠ 3 by decide), getD_set_ne true (show 4 ≠ 6 by decide)]) (fun _ _ _ h => h) (Or.inl ⟨by rfl, ?_⟩) hHeld ?_
      rotate_left
      · intro wt _; first | (go_simp; done) | (go_simp; with_reducible rfl) | (trace_state; fail)
      clear hHeld; intro hHeld
      try simp only [Act.put, List.setIfInBounds_toArray, List.set_cons_zero, List.set_cons_succ]
      refine till_take 6 (fun w' => Below W1.heap.size W1 w') (i := 5) (oi := { dst := some 20, op := Op.load 3 (Operand.tmp 19), type := 3, pos := _, after := #[{ on := 4, ground := Ground.data }], guard := none }) (u := ?_) rfl (by kernel_rfl) (by kernel_rfl) (by kernel_rfl) (by kernel_rfl) (by kernel_rfl) (by decide) (fun L v hL h => h.2.2 hL) (fun L v => by simp only [getD_set_ne true (show 5 ≠ 8 by decide), getD_set_ne true (show 5 ≠ 3 by decide), getD_set_ne true (show 5 ≠ 6 by decide)]) (fun _ _ _ h => h) (Or.inl ⟨by rfl, ?_⟩) hHeld ?_
      rotate_left
      · intro wt hSw; (try dsimp only at hSw); have e1 := cellB hSw e1 zu; have e2 := cellB hSw e2 zu; clear hSw; first | (go_simp; done) | (go_simp; with_reducible rfl) | (trace_state; fail)
      clear hHeld; intro hHeld
      try simp only [Act.put, List.setIfInBounds_toArray, List.set_cons_zero, List.set_cons_succ]
      refine till_one (i := 3) (o := { dst := some 18, op := Op.call { callee := Callee.value (Operand.func 46), args := #[Operand.tmp 17], argTypes := #[35] }, type := 35, pos := _, after := #[{ on := 2, ground := Ground.data }], guard := none }) (by kernel_rfl) rfl (fun K hK => ?_)
      go_simp
      have hHeld := hHeld.1 (by decide); refine (clone_int _ x.params _ (hU1.ps.below intR_stable hHeld) (by omega)).mono ?_; rintro e v1 ⟨r, rfl, hO1, hb1⟩; have HS3 := Lib.hid ((HRw.out _ hHeld).snoc hb1 (Nat.le_trans hBW1.size hHeld.size) hO1); have hHeld := hHeld.trans (hb1.mono hHeld.size); have hHeldC := hHeld; obtain ⟨ar, cr, rfl⟩ := owns_form hO1; clear hb1 hO1
      go_wp2_with fail
      refine hK.out _ _ ?_ (fun hHeld => ?_)
      · (try dsimp only); first | exact ⟨fun _ => (Below.refl _ _).drew, fun _ => (Below.refl _ _).drew, fun _ => (Below.refl _ _).drew⟩ | exact ⟨fun _ => Below.refl _ _, fun _ => Below.refl _ _, fun _ => Below.refl _ _⟩ | exact ⟨fun _ => hHeldC, fun _ => hHeldC, fun _ => hHeldC⟩
      clear hK K
      try simp only [Act.put, List.setIfInBounds_toArray, List.set_cons_zero, List.set_cons_succ]
      refine till_one (i := 6) (o := { dst := some 21, op := Op.build 72 #[(0, Operand.tmp 18), (1, Operand.tmp 20)], type := 72, pos := _, after := #[{ on := 3, ground := Ground.data }, { on := 5, ground := Ground.data }], guard := none }) (by kernel_rfl) rfl (fun K hK => ?_)
      go_simp
      refine hK.out _ _ ?_ (fun hHeld => ?_)
      · (try dsimp only); first | exact ⟨fun _ => (Below.refl _ _).drew, fun _ => (Below.refl _ _).drew, fun _ => (Below.refl _ _).drew⟩ | exact ⟨fun _ => Below.refl _ _, fun _ => Below.refl _ _, fun _ => Below.refl _ _⟩ | exact ⟨fun _ => hHeldC, fun _ => hHeldC, fun _ => hHeldC⟩
      clear hK K
      try simp only [Act.put, List.setIfInBounds_toArray, List.set_cons_zero, List.set_cons_succ]
      refine till_one (i := 7) (o := { dst := some 22, op := Op.buildSlice 34 1 #[(0, Operand.tmp 21)], type := 34, pos := _, after := #[{ on := 6, ground := Ground.data }], guard := none }) (by kernel_rfl) rfl (fun K hK => ?_)
      go_simp
      refine hK.out _ _ ?_ (fun hHeld => ?_)
      · (try dsimp only); exact ⟨fun _ => Below.alloc hHeldC hHeldC.size _, fun h => absurd h (by decide), fun h => absurd h (by decide)⟩
      clear hK K
      try simp only [Act.put, List.setIfInBounds_toArray, List.set_cons_zero, List.set_cons_succ]
      refine till_one (i := 8) (o := { dst := some 23, op := Op.call { callee := Callee.builtin Builtin.append, args := #[Operand.tmp 15, Operand.tmp 22], argTypes := #[34, 34] }, type := 34, pos := _, after := #[{ on := 0, ground := Ground.data }, { on := 7, ground := Ground.data }, { on := 3, ground := Ground.chain }], guard := none }) (by kernel_rfl) rfl (fun K hK => ?_)
      rw [if_pos (by kernel_rfl)]
      have hHeld := hHeld.1 (by decide); refine wp_append_src (.tmp 15) (.tmp 22) 34 rfl w.heap.size 72 i zz 2 32 Try.underlying34 hi hz hsize hby hzs (by omega) _ k (flatC (sigC U (us.take k))) rfl (HOu.out _ hHeld) _ 1 [.slice ar x.params.length cr, .int .i64 x.result] rfl (src_new _ _ _) rfl (by intro u hu; simp at hu; rcases hu with rfl | rfl <;> rfl) (by unfold maxLen; omega) (by omega) (Nat.le_trans hBW1.size hHeld.size) ?_; intro v2 w2 hO2 hG2; have HR2 := Lib.hid (OwnRows.grown (HS3.out.below (by (repeat' (first | (with_reducible exact Below.refl _ _) | (with_reducible assumption) | (with_reducible refine below_drewN ?_ _) | (with_reducible refine Below.alloc ?_ ?_ _) | (with_reducible refine Below.drew ?_) | (with_reducible refine Below.setCell ?_ ?_ _) | go_size)))) (HOu.out _ hHeld) (by decide) hG2); have HB2 := Lib.hid (grown3 (hBW1.trans (hHeld.mono hBW1.size)) (Nat.le_trans hBW1.size hHeld.size) (HOu.out _ hHeld) hG2); obtain ⟨av, cv2, rfl⟩ := owns_form hO2; have HO2 := Lib.hid hO2; clear hO2 hG2
      refine hK.out _ _ ?_ (fun hHeld => ?_)
      · (try dsimp only); exact ⟨fun h => absurd h (by decide), fun h => absurd h (by decide), fun h => absurd h (by decide)⟩
      clear hK K
      try simp only [Act.put, List.setIfInBounds_toArray, List.set_cons_zero, List.set_cons_succ]
      refine till_one (i := 9) (o := { dst := some 3, op := Op.assign (Operand.tmp 23), type := 34, pos := _, after := #[{ on := 8, ground := Ground.data }, { on := 8, ground := Ground.chain }, { on := 0, ground := Ground.phase }, { on := 1, ground := Ground.phase }, { on := 2, ground := Ground.phase }, { on := 3, ground := Ground.phase }, { on := 4, ground := Ground.phase }, { on := 5, ground := Ground.phase }, { on := 6, ground := Ground.phase }, { on := 7, ground := Ground.phase }, { on := 8, ground := Ground.phase }], guard := none }) (by kernel_rfl) rfl (fun K hK => ?_)
      go_simp
      refine hK.out _ _ ?_ (fun hHeld => ?_)
      · (try dsimp only); exact ⟨fun h => absurd h (by decide), fun h => absurd h (by decide), fun h => absurd h (by decide)⟩
      clear hK K
      try simp only [Act.put, List.setIfInBounds_toArray, List.set_cons_zero, List.set_cons_succ]
      refine till_done (by kernel_rfl) ?_ _
      go_wp2_with fail
      go_roundw
      case rel => exact ⟨k + 1, U ++ [.slice ar x.params.length cr], by omega, by simp, Lib.hid (own_eq2 HO2.out rfl (by rw [HT.out, sigC_snoc _ _ _ _ HUl.out])), Lib.hid (by rw [HT.out, List.map_append]; exact HR2.out), HB2⟩
      case measure => first | (simp [intOf]; done) | (simp [intOf]; omega)
    · obtain rfl : k = N := by omega
      have qk : ((k : Int) < (k : Int)) = False := eq_false (by omega)
      have hfin := Lib.hid (show SigsO w.heap.size wr (.slice ao k co) us from by
        have h1 := HO.out
        have h2 := HR.out
        rw [List.take_of_length_le (by rw [HN.out]; exact Nat.le_refl _)] at h1 h2
        exact ⟨U, h2, own_eq2 h1 HN.out.symm rfl⟩)
      go_wp2_with fail
      go_ret
      exact ⟨_, rfl, hfin.out, HB.out⟩
theorem decl_Sigs (v : Value) (us : List Un) (w : World) (hv : RowR 5 unitR w v us) (hf : ∀ x ∈ us, fewU x = true) (hn : us.length ≤ 10) :
    Calls Try.prog 17 #[v] w fun e w' => ∃ r, e = .returned r ∧ RowR 2 sigR w' r (us.map fun x => (x.params, x.result)) ∧ Below w.heap.size w w' := by
  obtain ⟨sv, cv, rfl⟩ := row_get hv
  refine (decl_SigsO _ us w hv hf hn).mono ?_
  rintro e w' ⟨r, rfl, ⟨U, h1, h2⟩, hb⟩
  exact ⟨r, rfl, sigs_row rfl h1 h2 (units_int hv), hb⟩
end Go.Proofs.Ytogmbfhefblbjaa
