/- Layer 17: a unit's scope. -/
import Derived.Test.YtogmbfhefblbjaaRefCheck
import Derived.Test.YtogmbfhefblbjaaFacts
import Derived.Laws.OwnMore
namespace Go.Proofs.Ytogmbfhefblbjaa
open Go.RowKit
set_option linter.unusedSimpArgs false
set_option linter.unusedVariables false
/-- a row of the call's own, whose elements read in every world alike -/
def OwnG {α : Type} (q : Nat) (e : TypeId) (R : Rep α) (B : Nat) (w : World) (v : Value) (L : List α) : Prop := ∃ CH : List (Chunk q), CH.length = L.length ∧ (∀ (i : Nat) (c : Chunk q) (x : α), CH[i]? = some c → L[i]? = some x → ∀ W, R W c.1 x) ∧ w.ownsRow B e q v L.length (flatC CH)
theorem OwnG.below {α : Type} {q : Nat} {e : TypeId} {R : Rep α} {B : Nat} {w w' : World} {v : Value} {L : List α} (h : OwnG q e R B w v L) (hb : Below w.heap.size w w') : OwnG q e R B w' v L := by
  obtain ⟨CH, h1, h2, h3⟩ := h
  exact ⟨CH, h1, h2, owns_below h3 hb⟩
theorem OwnG.low {α : Type} {q : Nat} {e : TypeId} {R : Rep α} {B C : Nat} {w : World} {v : Value} {L : List α} (h : OwnG q e R C w v L) (hb : B ≤ C) : OwnG q e R B w v L := by
  obtain ⟨CH, h1, h2, h3⟩ := h
  exact ⟨CH, h1, h2, own_low h3 hb⟩
theorem OwnG.row {α : Type} {q : Nat} {e : TypeId} {R : Rep α} {B : Nat} {w : World} {v : Value} {L : List α} (h : OwnG q e R B w v L) : RowR q R w v L := by
  obtain ⟨CH, h1, h2, h3⟩ := h
  exact row_of_chunks h3 h1.symm h1 (fun i c x hc hx => h2 i c x hc hx w)
theorem OwnG.form {α : Type} {q : Nat} {e : TypeId} {R : Rep α} {B : Nat} {w : World} {v : Value} {L : List α} (h : OwnG q e R B w v L) : ∃ a c, v = .slice a L.length c := by
  obtain ⟨CH, h1, h2, h3⟩ := h
  exact owns_form h3
theorem OwnG.set {α : Type} {q : Nat} {e t : TypeId} {R : Rep α} {B : Nat} {w : World} {v : Value} {L : List α} {g i : Nat} {C : Array Value} {fr : Nat × Nat} {x : Value} (h : OwnG q e R B w v L) (hg : w.heap[g]? = some (.cells C t fr)) (hne : e ≠ t) : OwnG q e R B (w.setCell ⟨g, i, none⟩ x) v L := by
  obtain ⟨CH, h1, h2, h3⟩ := h
  exact ⟨CH, h1, h2, owns_set h3 (own_ne_type h3 hg hne)⟩
theorem OwnRows.set {B : Nat} {e t : TypeId} {w : World} {U : List Value} {L : List (List Int)} {g i : Nat} {C : Array Value} {fr : Nat × Nat} {x : Value} (h : OwnRows B e w U L) (hg : w.heap[g]? = some (.cells C t fr)) (hne : e ≠ t) : OwnRows B e (w.setCell ⟨g, i, none⟩ x) U L :=
  ⟨h.len, fun k u l hu hl => owns_set (h.row k u l hu hl) (own_ne_type (h.row k u l hu hl) hg hne), h.apart⟩
theorem OwnRows.low {B C : Nat} {e : TypeId} {w : World} {U : List Value} {L : List (List Int)} (h : OwnRows C e w U L) (hb : B ≤ C) : OwnRows B e w U L :=
  ⟨h.len, fun k u l hu hl => own_low (h.row k u l hu hl) hb, h.apart⟩
theorem SigsO.below {B : Nat} {w w' : World} {v : Value} {us : List Un} (h : SigsO B w v us) (hb : Below w.heap.size w w') : SigsO B w' v us := by
  obtain ⟨U, h1, h2⟩ := h
  exact ⟨U, h1.below hb, owns_below h2 hb⟩
theorem SigsO.low {B C : Nat} {w : World} {v : Value} {us : List Un} (h : SigsO C w v us) (hb : B ≤ C) : SigsO B w v us := by
  obtain ⟨U, h1, h2⟩ := h
  exact ⟨U, h1.low hb, own_low h2 hb⟩
theorem SigsO.form {B : Nat} {w : World} {v : Value} {us : List Un} (h : SigsO B w v us) : ∃ a c, v = .slice a us.length c := by
  obtain ⟨U, h1, h2⟩ := h
  exact owns_form h2
theorem SigsO.set {B : Nat} {t : TypeId} {w : World} {v : Value} {us : List Un} {g i : Nat} {C : Array Value} {fr : Nat × Nat} {x : Value} (h : SigsO B w v us) (hg : w.heap[g]? = some (.cells C t fr)) (h1 : 3 ≠ t) (h2 : 72 ≠ t) : SigsO B (w.setCell ⟨g, i, none⟩ x) v us := by
  obtain ⟨U, k1, k2⟩ := h
  exact ⟨U, k1.set hg h1, owns_set k2 (own_ne_type k2 hg h2)⟩
theorem clone_varO (v : Value) (L : List Vr) (w : World) (hv : RowR 5 varR w v L) (hL : L.length ≤ 2000) (h1 : ∀ w cs x, varR w cs x → ∀ u ∈ cs, u.oneCell' = true) :
    Calls Try.prog 38 #[v] w fun e w' => ∃ r, e = .returned r ∧ OwnG 5 45 varR w.heap.size w' r L ∧ Below w.heap.size w w' := by
  obtain ⟨i, z, hi, hz, hsize, hby, hzs⟩ : ∃ i z, Try.prog.info? 45 = some i ∧ i.zero = some z ∧ i.size = 5 ∧ i.bytes = 48 ∧ z.cells.size = 5 := ⟨(Try.prog.info? 45).get!, .agg #[.string ⟨#[]⟩, .int .i64 0, .int .i64 0, .int .i64 0, .int .i64 0], by kernel_rfl, by kernel_rfl, by kernel_rfl, by kernel_rfl, by kernel_rfl⟩
  obtain ⟨CH, hl, hC, hsrc⟩ := row_chunks hv
  have hone := chunks_one (CH := CH) (fun i c hc => by obtain ⟨x, hx⟩ := get_some (L := L) (n := i) (by rw [← hl]; exact lt_of_get hc); exact h1 _ _ _ (hC i c x hc hx))
  obtain ⟨sv, cv, rfl⟩ := row_get hv
  obtain ⟨m, hm⟩ : ∃ m, L.length = m := ⟨_, rfl⟩
  have HM := Lib.hid hm
  rw [hm] at hsrc hL
  have HL := Lib.hid hl
  have HC := Lib.hid hC
  have HS := Lib.hid hsrc
  clear hl hC hsrc hv h1
  rw [hm]
  clear hm
  go_enter Try.func38, Try.ntmps38
  go_wp2_with (first | (at_builtin; go_loud (refine wpList_append_src rfl (.const (.slice none 0 0)) (.tmp 3) 23 rfl w.heap.size 45 i z 5 48 Try.underlying23 hi hz hsize hby hzs (by omega) (.slice none 0 0) 0 [] rfl (World.ownsRow_nil _ _ _ _) _ m (flatC CH) rfl HS.out (by rw [flatC_len, HL.out, HM.out]) hone (by unfold maxLen; omega) (by omega) (Nat.le_refl _) ?_); intro v2 w2 hO2 hG2; have hb2 := below_none hG2; simp only [Nat.zero_add, List.nil_append] at hO2; have HR := Lib.hid (show OwnG 5 45 varR w.heap.size w2 v2 L from ⟨CH, HL.out, fun i c x hc hx _ => HC.out i c x hc hx, own_eq2 hO2 HM.out.symm rfl⟩); obtain ⟨av, cv2, rfl⟩ := owns_form hO2; clear hO2 hG2) | fail)
  go_ret
  exact ⟨_, rfl, HR.out, hb2⟩
theorem clone_blkO (v : Value) (L : List Bk) (w : World) (hv : RowR 2 blkR w v L) (hL : L.length ≤ 2000) (h1 : ∀ w cs x, blkR w cs x → ∀ u ∈ cs, u.oneCell' = true) :
    Calls Try.prog 39 #[v] w fun e w' => ∃ r, e = .returned r ∧ OwnG 2 47 blkR w.heap.size w' r L ∧ Below w.heap.size w w' := by
  obtain ⟨i, z, hi, hz, hsize, hby, hzs⟩ : ∃ i z, Try.prog.info? 47 = some i ∧ i.zero = some z ∧ i.size = 2 ∧ i.bytes = 24 ∧ z.cells.size = 2 := ⟨(Try.prog.info? 47).get!, .agg #[.string ⟨#[]⟩, .int .i64 0], by kernel_rfl, by kernel_rfl, by kernel_rfl, by kernel_rfl, by kernel_rfl⟩
  obtain ⟨CH, hl, hC, hsrc⟩ := row_chunks hv
  have hone := chunks_one (CH := CH) (fun i c hc => by obtain ⟨x, hx⟩ := get_some (L := L) (n := i) (by rw [← hl]; exact lt_of_get hc); exact h1 _ _ _ (hC i c x hc hx))
  obtain ⟨sv, cv, rfl⟩ := row_get hv
  obtain ⟨m, hm⟩ : ∃ m, L.length = m := ⟨_, rfl⟩
  have HM := Lib.hid hm
  rw [hm] at hsrc hL
  have HL := Lib.hid hl
  have HC := Lib.hid hC
  have HS := Lib.hid hsrc
  clear hl hC hsrc hv h1
  rw [hm]
  clear hm
  go_enter Try.func39, Try.ntmps39
  go_wp2_with (first | (at_builtin; go_loud (refine wpList_append_src rfl (.const (.slice none 0 0)) (.tmp 3) 24 rfl w.heap.size 47 i z 2 24 Try.underlying24 hi hz hsize hby hzs (by omega) (.slice none 0 0) 0 [] rfl (World.ownsRow_nil _ _ _ _) _ m (flatC CH) rfl HS.out (by rw [flatC_len, HL.out, HM.out]) hone (by unfold maxLen; omega) (by omega) (Nat.le_refl _) ?_); intro v2 w2 hO2 hG2; have hb2 := below_none hG2; simp only [Nat.zero_add, List.nil_append] at hO2; have HR := Lib.hid (show OwnG 2 47 blkR w.heap.size w2 v2 L from ⟨CH, HL.out, fun i c x hc hx _ => HC.out i c x hc hx, own_eq2 hO2 HM.out.symm rfl⟩); obtain ⟨av, cv2, rfl⟩ := owns_form hO2; clear hO2 hG2) | fail)
  go_ret
  exact ⟨_, rfl, HR.out, hb2⟩
theorem var_one (w : World) (cs : List Value) (x : Vr) (h : varR w cs x) : ∀ u ∈ cs, u.oneCell' = true := by
  obtain ⟨rfl, _⟩ := h
  intro u hu; simp at hu; rcases hu with rfl | rfl | rfl | rfl | rfl <;> rfl
theorem blk_one (w : World) (cs : List Value) (x : Bk) (h : blkR w cs x) : ∀ u ∈ cs, u.oneCell' = true := by
  obtain ⟨rfl, _⟩ := h
  intro u hu; simp at hu; rcases hu with rfl | rfl <;> rfl
set_option maxHeartbeats 8000000 in
theorem scope_r1 (W0 : World) (g : Nat) (V : List Vr) (B : List Bk) (us : List Un) (sb sc sd : Option Addr) (cb cc cd : Nat) (hg : g < W0.heap.size) (C1 : W0.cell? ⟨g, 1, none⟩ = some (.slice sb V.length cb)) (C2 : W0.cell? ⟨g, 2, none⟩ = some (.slice sc B.length cc)) (C3 : W0.cell? ⟨g, 3, none⟩ = some (.slice sd us.length cd)) (HV : Hid (∀ W : World, Below W0.heap.size W0 W → RowR 5 varR W (.slice sb V.length cb) V)) (HK : Hid (∀ W : World, Below W0.heap.size W0 W → RowR 2 blkR W (.slice sc B.length cc) B)) (HU : Hid (∀ W : World, Below W0.heap.size W0 W → RowR 5 unitR W (.slice sd us.length cd) us)) (hf : ∀ x ∈ us, fewU x = true) (hV : V.length ≤ 2000) (hB : B.length ≤ 2000) (hn : us.length ≤ 10) (t0 t1 t3 t4 t5 t6 t7 t8 t9 t10 t11 t12 t13 t14 t15 t16 t17 t18 t19 t20 t21 t22 t23 t24 t25 t26 t27 t28 t29 t30 t31 t32 : Value) :
    (Code.region 1 #[{ dst := some 6, op := Op.fieldAddr 27 (Operand.tmp 2) 1, type := 0, pos := "decl.go:116", after := #[], guard := none }, { dst := some 7, op := Op.load 23 (Operand.tmp 6), type := 23, pos := "decl.go:116", after := #[{ on := 0, ground := Ground.data }], guard := none }, { dst := some 8, op := Op.call { callee := Callee.value (Operand.func 38), args := #[Operand.tmp 7], argTypes := #[23] }, type := 23, pos := "decl.go:116", after := #[{ on := 1, ground := Ground.data }], guard := none }, { dst := some 9, op := Op.fieldAddr 27 (Operand.tmp 2) 2, type := 0, pos := "decl.go:116", after := #[], guard := none }, { dst := some 10, op := Op.load 24 (Operand.tmp 9), type := 24, pos := "decl.go:116", after := #[{ on := 3, ground := Ground.data }], guard := none }, { dst := some 11, op := Op.call { callee := Callee.value (Operand.func 39), args := #[Operand.tmp 10], argTypes := #[24] }, type := 24, pos := "decl.go:116", after := #[{ on := 4, ground := Ground.data }, { on := 2, ground := Ground.chain }], guard := none }, { dst := some 12, op := Op.fieldAddr 27 (Operand.tmp 2) 3, type := 0, pos := "decl.go:116", after := #[], guard := none }, { dst := some 13, op := Op.load 25 (Operand.tmp 12), type := 25, pos := "decl.go:116", after := #[{ on := 6, ground := Ground.data }], guard := none }, { dst := some 14, op := Op.call { callee := Callee.value (Operand.func 17), args := #[Operand.tmp 13], argTypes := #[25] }, type := 34, pos := "decl.go:116", after := #[{ on := 7, ground := Ground.data }, { on := 5, ground := Ground.chain }], guard := none }, { dst := some 15, op := Op.build 37 #[(0, Operand.tmp 8), (1, Operand.tmp 11), (2, Operand.tmp 14)], type := 37, pos := "decl.go:116", after := #[{ on := 2, ground := Ground.data }, { on := 5, ground := Ground.data }, { on := 8, ground := Ground.data }], guard := none }, { dst := some 5, op := Op.alloc 37, type := 0, pos := "decl.go:116", after := #[], guard := none }, { dst := none, op := Op.store 37 (Operand.tmp 5) (Operand.tmp 15), type := 0, pos := "decl.go:116", after := #[{ on := 10, ground := Ground.data }, { on := 9, ground := Ground.data }, { on := 8, ground := Ground.chain }, { on := 0, ground := Ground.phase }, { on := 1, ground := Ground.phase }, { on := 2, ground := Ground.phase }, { on := 3, ground := Ground.phase }, { on := 4, ground := Ground.phase }, { on := 5, ground := Ground.phase }, { on := 6, ground := Ground.phase }, { on := 7, ground := Ground.phase }, { on := 8, ground := Ground.phase }, { on := 9, ground := Ground.phase }, { on := 10, ground := Ground.phase }], guard := none }] true).wp Try.prog (fun e b v => e = Exit.normal ∧ ∃ u5 u6 u7 u8 u9 u10 u11 u12 u13 u14 u15 : Value, b = ⟨#[t0, t1, .pointer (some ⟨g, 0, none⟩), t3, t4, u5, u6, u7, u8, u9, u10, u11, u12, u13, u14, u15, t16, t17, t18, t19, t20, t21, t22, t23, t24, t25, t26, t27, t28, t29, t30, t31, t32], []⟩ ∧ Below W0.heap.size W0 v ∧ (∃ p a1 c1 a2 c2 a3 c3, u5 = .pointer (some ⟨p, 0, none⟩) ∧ W0.heap.size ≤ p ∧ v.heap[p]? = some (.cells #[.slice a1 V.length c1, .slice a2 B.length c2, .slice a3 us.length c3, .slice none 0 0] 37) ∧ OwnG 5 45 varR W0.heap.size v (.slice a1 V.length c1) V ∧ OwnG 2 47 blkR W0.heap.size v (.slice a2 B.length c2) B ∧ SigsO W0.heap.size v (.slice a3 us.length c3) us)) ⟨#[t0, t1, .pointer (some ⟨g, 0, none⟩), t3, t4, t5, t6, t7, t8, t9, t10, t11, t12, t13, t14, t15, t16, t17, t18, t19, t20, t21, t22, t23, t24, t25, t26, t27, t28, t29, t30, t31, t32], []⟩ W0 := by
  refine wp_region_facts (n := 12) (fun L b v => ∃ u5 u6 u7 u8 u9 u10 u11 u12 u13 u14 u15 : Value, b = ⟨#[t0, t1, .pointer (some ⟨g, 0, none⟩), t3, t4, u5, u6, u7, u8, u9, u10, u11, u12, u13, u14, u15, t16, t17, t18, t19, t20, t21, t22, t23, t24, t25, t26, t27, t28, t29, t30, t31, t32], []⟩ ∧ Below W0.heap.size W0 v ∧ (L.getD 0 false = true → u6 = .pointer (some ⟨g, 1, none⟩)) ∧ (L.getD 1 false = true → u7 = .slice sb V.length cb) ∧ (L.getD 2 false = true → (∃ a c, u8 = .slice a V.length c) ∧ (L.getD 11 true = false → OwnG 5 45 varR W0.heap.size v u8 V)) ∧ (L.getD 3 false = true → u9 = .pointer (some ⟨g, 2, none⟩)) ∧ (L.getD 4 false = true → u10 = .slice sc B.length cc) ∧ (L.getD 5 false = true → (∃ a c, u11 = .slice a B.length c) ∧ (L.getD 11 true = false → OwnG 2 47 blkR W0.heap.size v u11 B)) ∧ (L.getD 6 false = true → u12 = .pointer (some ⟨g, 3, none⟩)) ∧ (L.getD 7 false = true → u13 = .slice sd us.length cd) ∧ (L.getD 8 false = true → (∃ a c, u14 = .slice a us.length c) ∧ (L.getD 11 true = false → SigsO W0.heap.size v u14 us)) ∧ (L.getD 9 false = true → u15 = .agg #[u8, u11, u14, .slice none 0 0] ∧ v = v) ∧ (L.getD 10 false = true → L.getD 11 true = false → ∃ p, u5 = .pointer (some ⟨p, 0, none⟩) ∧ W0.heap.size ≤ p ∧ v.heap[p]? = some (.cells #[.slice none 0 0, .slice none 0 0, .slice none 0 0, .slice none 0 0] 37)) ∧ (L.getD 11 false = true → ∃ p a1 c1 a2 c2 a3 c3, u5 = .pointer (some ⟨p, 0, none⟩) ∧ W0.heap.size ≤ p ∧ v.heap[p]? = some (.cells #[.slice a1 V.length c1, .slice a2 B.length c2, .slice a3 us.length c3, .slice none 0 0] 37) ∧ OwnG 5 45 varR W0.heap.size v (.slice a1 V.length c1) V ∧ OwnG 2 47 blkR W0.heap.size v (.slice a2 B.length c2) B ∧ SigsO W0.heap.size v (.slice a3 us.length c3) us)) (by kernel_rfl) (by kernel_rfl) (by kernel_rfl) ?_ ?_ ?_
  · refine ⟨_, _, _, _, _, _, _, _, _, _, _, rfl, (Below.refl _ _).drew, flag_new, flag_new, flag_new, flag_new, flag_new, flag_new, flag_new, flag_new, flag_new, flag_new, flag_new, flag_new⟩
  · refine AllSteps.succ (AllSteps.succ (AllSteps.succ (AllSteps.succ (AllSteps.succ (AllSteps.succ (AllSteps.succ (AllSteps.succ (AllSteps.succ (AllSteps.succ (AllSteps.succ (AllSteps.succ AllSteps.zero ?_) ?_) ?_) ?_) ?_) ?_) ?_) ?_) ?_) ?_) ?_) ?_
    · refine StepAt.mk (o := { dst := some 6, op := Op.fieldAddr 27 (Operand.tmp 2) 1, type := 0, pos := _, after := #[], guard := none }) (ws := []) rfl (by kernel_rfl) ?_
      intro L b v hC h0 hA h
      refine h.elim ?_; clear h; intro u5 h
      refine h.elim ?_; clear h; intro u6 h
      refine h.elim ?_; clear h; intro u7 h
      refine h.elim ?_; clear h; intro u8 h
      refine h.elim ?_; clear h; intro u9 h
      refine h.elim ?_; clear h; intro u10 h
      refine h.elim ?_; clear h; intro u11 h
      refine h.elim ?_; clear h; intro u12 h
      refine h.elim ?_; clear h; intro u13 h
      refine h.elim ?_; clear h; intro u14 h
      refine h.elim ?_; clear h; intro u15 h
      have hbb := h.1; replace h := h.2; subst hbb
      have hHeld := h.1; replace h := h.2
      have f0 := h.1; replace h := h.2
      have f1 := h.1; replace h := h.2
      have f2 := h.1; replace h := h.2
      have f3 := h.1; replace h := h.2
      have f4 := h.1; replace h := h.2
      have f5 := h.1; replace h := h.2
      have f6 := h.1; replace h := h.2
      have f7 := h.1; replace h := h.2
      have f8 := h.1; replace h := h.2
      have f9 := h.1; replace h := h.2
      have f10 := h.1; replace h := h.2
      have f11 := h; clear h
      intro K hK
      rw [if_pos (by kernel_rfl)]
      have q0 := cellB hHeld C1 hg
      have q1 := cellB hHeld C2 hg
      have q2 := cellB hHeld C3 hg
      go_simp
      try simp only [Act.put, List.setIfInBounds_toArray, List.set_cons_zero, List.set_cons_succ]
      refine hK.out _ _ ⟨_, _, _, _, _, _, _, _, _, _, _, rfl, ?_, ?_, ?_, ?_, ?_, ?_, ?_, ?_, ?_, ?_, ?_, ?_, ?_⟩
      · first | exact hHeld | exact hHeld.trans (hb.mono hHeld.size) | (trace_state; fail)
      · intro _; first | rfl | (trace_state; fail)
      · first | exact flag_ne (by decide) f1 | exact fun _ => rfl
      · intro h; rw [getD_set_ne false (by decide)] at h; exact (getD_no h0 (hC.step (j := 1) (k := 0) (hC.step (j := 2) (k := 1) h (by kernel_rfl)) (by kernel_rfl))).elim
      · first | exact flag_ne (by decide) f3 | exact fun _ => rfl
      · first | exact flag_ne (by decide) f4 | exact fun _ => rfl
      · intro h; rw [getD_set_ne false (by decide)] at h; exact (getD_no h0 (hC.step (j := 1) (k := 0) (hC.step (j := 2) (k := 1) (hC.step (j := 5) (k := 2) h (by kernel_rfl)) (by kernel_rfl)) (by kernel_rfl))).elim
      · first | exact flag_ne (by decide) f6 | exact fun _ => rfl
      · first | exact flag_ne (by decide) f7 | exact fun _ => rfl
      · intro h; rw [getD_set_ne false (by decide)] at h; exact (getD_no h0 (hC.step (j := 1) (k := 0) (hC.step (j := 2) (k := 1) (hC.step (j := 5) (k := 2) (hC.step (j := 8) (k := 5) h (by kernel_rfl)) (by kernel_rfl)) (by kernel_rfl)) (by kernel_rfl))).elim
      · intro h; rw [getD_set_ne false (by decide)] at h; exact (getD_no h0 (hC.step (j := 1) (k := 0) (hC.step (j := 2) (k := 1) (hC.step (j := 9) (k := 2) h (by kernel_rfl)) (by kernel_rfl)) (by kernel_rfl))).elim
      · intro h h7; rw [getD_set_ne false (by decide)] at h; rw [getD_set_ne true (by decide)] at h7; have := f10 h h7; first | exact this | (obtain ⟨p, z1, z2, z3⟩ := this; exact ⟨p, z1, z2, obj_below z3 hb (heap_lt z3)⟩) | (trace_state; fail)
      · intro h; rw [getD_set_ne false (by decide)] at h; exact (getD_no h0 (hC.step (j := 11) (k := 0) h (by kernel_rfl))).elim
    · refine StepAt.mk (o := { dst := some 7, op := Op.load 23 (Operand.tmp 6), type := 23, pos := _, after := #[{ on := 0, ground := Ground.data }], guard := none }) (ws := [0]) rfl (by kernel_rfl) ?_
      intro L b v hC h0 hA h
      refine h.elim ?_; clear h; intro u5 h
      refine h.elim ?_; clear h; intro u6 h
      refine h.elim ?_; clear h; intro u7 h
      refine h.elim ?_; clear h; intro u8 h
      refine h.elim ?_; clear h; intro u9 h
      refine h.elim ?_; clear h; intro u10 h
      refine h.elim ?_; clear h; intro u11 h
      refine h.elim ?_; clear h; intro u12 h
      refine h.elim ?_; clear h; intro u13 h
      refine h.elim ?_; clear h; intro u14 h
      refine h.elim ?_; clear h; intro u15 h
      have hbb := h.1; replace h := h.2; subst hbb
      have hHeld := h.1; replace h := h.2
      have f0 := h.1; replace h := h.2
      have f1 := h.1; replace h := h.2
      have f2 := h.1; replace h := h.2
      have f3 := h.1; replace h := h.2
      have f4 := h.1; replace h := h.2
      have f5 := h.1; replace h := h.2
      have f6 := h.1; replace h := h.2
      have f7 := h.1; replace h := h.2
      have f8 := h.1; replace h := h.2
      have f9 := h.1; replace h := h.2
      have f10 := h.1; replace h := h.2
      have f11 := h; clear h
      intro K hK
      have g0 := f0 (hA 0 (by simp))
      obtain rfl := g0
      rw [if_pos (by kernel_rfl)]
      have q0 := cellB hHeld C1 hg
      have q1 := cellB hHeld C2 hg
      have q2 := cellB hHeld C3 hg
      go_simp
      try simp only [Act.put, List.setIfInBounds_toArray, List.set_cons_zero, List.set_cons_succ]
      refine hK.out _ _ ⟨_, _, _, _, _, _, _, _, _, _, _, rfl, ?_, ?_, ?_, ?_, ?_, ?_, ?_, ?_, ?_, ?_, ?_, ?_, ?_⟩
      · first | exact hHeld | exact hHeld.trans (hb.mono hHeld.size) | (trace_state; fail)
      · first | exact flag_ne (by decide) f0 | exact fun _ => rfl
      · intro _; first | rfl | (trace_state; fail)
      · intro h; rw [getD_set_ne false (by decide)] at h; exact (getD_no h0 (hC.step (j := 2) (k := 1) h (by kernel_rfl))).elim
      · first | exact flag_ne (by decide) f3 | exact fun _ => rfl
      · first | exact flag_ne (by decide) f4 | exact fun _ => rfl
      · intro h; rw [getD_set_ne false (by decide)] at h; exact (getD_no h0 (hC.step (j := 2) (k := 1) (hC.step (j := 5) (k := 2) h (by kernel_rfl)) (by kernel_rfl))).elim
      · first | exact flag_ne (by decide) f6 | exact fun _ => rfl
      · first | exact flag_ne (by decide) f7 | exact fun _ => rfl
      · intro h; rw [getD_set_ne false (by decide)] at h; exact (getD_no h0 (hC.step (j := 2) (k := 1) (hC.step (j := 5) (k := 2) (hC.step (j := 8) (k := 5) h (by kernel_rfl)) (by kernel_rfl)) (by kernel_rfl))).elim
      · intro h; rw [getD_set_ne false (by decide)] at h; exact (getD_no h0 (hC.step (j := 2) (k := 1) (hC.step (j := 9) (k := 2) h (by kernel_rfl)) (by kernel_rfl))).elim
      · intro h h7; rw [getD_set_ne false (by decide)] at h; rw [getD_set_ne true (by decide)] at h7; have := f10 h h7; first | exact this | (obtain ⟨p, z1, z2, z3⟩ := this; exact ⟨p, z1, z2, obj_below z3 hb (heap_lt z3)⟩) | (trace_state; fail)
      · intro h; rw [getD_set_ne false (by decide)] at h; exact (getD_no h0 (hC.step (j := 11) (k := 1) h (by kernel_rfl))).elim
    · refine StepAt.mk (o := { dst := some 8, op := Op.call { callee := Callee.value (Operand.func 38), args := #[Operand.tmp 7], argTypes := #[23] }, type := 23, pos := _, after := #[{ on := 1, ground := Ground.data }], guard := none }) (ws := [1]) rfl (by kernel_rfl) ?_
      intro L b v hC h0 hA h
      refine h.elim ?_; clear h; intro u5 h
      refine h.elim ?_; clear h; intro u6 h
      refine h.elim ?_; clear h; intro u7 h
      refine h.elim ?_; clear h; intro u8 h
      refine h.elim ?_; clear h; intro u9 h
      refine h.elim ?_; clear h; intro u10 h
      refine h.elim ?_; clear h; intro u11 h
      refine h.elim ?_; clear h; intro u12 h
      refine h.elim ?_; clear h; intro u13 h
      refine h.elim ?_; clear h; intro u14 h
      refine h.elim ?_; clear h; intro u15 h
      have hbb := h.1; replace h := h.2; subst hbb
      have hHeld := h.1; replace h := h.2
      have f0 := h.1; replace h := h.2
      have f1 := h.1; replace h := h.2
      have f2 := h.1; replace h := h.2
      have f3 := h.1; replace h := h.2
      have f4 := h.1; replace h := h.2
      have f5 := h.1; replace h := h.2
      have f6 := h.1; replace h := h.2
      have f7 := h.1; replace h := h.2
      have f8 := h.1; replace h := h.2
      have f9 := h.1; replace h := h.2
      have f10 := h.1; replace h := h.2
      have f11 := h; clear h
      intro K hK
      have g1 := f1 (hA 1 (by simp))
      obtain rfl := g1
      rw [if_pos (by kernel_rfl)]
      have q0 := cellB hHeld C1 hg
      have q1 := cellB hHeld C2 hg
      have q2 := cellB hHeld C3 hg
      go_simp
      refine (clone_varO _ V v (HV.out v hHeld) hV var_one).mono ?_; rintro e v1 ⟨r, rfl, HO, hb⟩; obtain ⟨ar, cr, rfl⟩ := HO.form
      go_wp2_with fail
      try simp only [Act.put, List.setIfInBounds_toArray, List.set_cons_zero, List.set_cons_succ]
      refine hK.out _ _ ⟨_, _, _, _, _, _, _, _, _, _, _, rfl, ?_, ?_, ?_, ?_, ?_, ?_, ?_, ?_, ?_, ?_, ?_, ?_, ?_⟩
      · first | exact hHeld | exact hHeld.trans (hb.mono hHeld.size) | (trace_state; fail)
      · first | exact flag_ne (by decide) f0 | exact fun _ => rfl
      · first | exact flag_ne (by decide) f1 | exact fun _ => rfl
      · intro _; first | exact ⟨⟨_, _, rfl⟩, fun _ => HO.low hHeld.size⟩ | (trace_state; fail)
      · first | exact flag_ne (by decide) f3 | exact fun _ => rfl
      · first | exact flag_ne (by decide) f4 | exact fun _ => rfl
      · intro h; rw [getD_set_ne false (by decide)] at h; exact (getD_no h0 (hC.step (j := 5) (k := 2) h (by kernel_rfl))).elim
      · first | exact flag_ne (by decide) f6 | exact fun _ => rfl
      · first | exact flag_ne (by decide) f7 | exact fun _ => rfl
      · intro h; rw [getD_set_ne false (by decide)] at h; exact (getD_no h0 (hC.step (j := 5) (k := 2) (hC.step (j := 8) (k := 5) h (by kernel_rfl)) (by kernel_rfl))).elim
      · intro h; rw [getD_set_ne false (by decide)] at h; exact (getD_no h0 (hC.step (j := 9) (k := 2) h (by kernel_rfl))).elim
      · intro h h7; rw [getD_set_ne false (by decide)] at h; rw [getD_set_ne true (by decide)] at h7; have := f10 h h7; first | exact this | (obtain ⟨p, z1, z2, z3⟩ := this; exact ⟨p, z1, z2, obj_below z3 hb (heap_lt z3)⟩) | (trace_state; fail)
      · intro h; rw [getD_set_ne false (by decide)] at h; exact (getD_no h0 (hC.step (j := 11) (k := 2) h (by kernel_rfl))).elim
    · refine StepAt.mk (o := { dst := some 9, op := Op.fieldAddr 27 (Operand.tmp 2) 2, type := 0, pos := _, after := #[], guard := none }) (ws := []) rfl (by kernel_rfl) ?_
      intro L b v hC h0 hA h
      refine h.elim ?_; clear h; intro u5 h
      refine h.elim ?_; clear h; intro u6 h
      refine h.elim ?_; clear h; intro u7 h
      refine h.elim ?_; clear h; intro u8 h
      refine h.elim ?_; clear h; intro u9 h
      refine h.elim ?_; clear h; intro u10 h
      refine h.elim ?_; clear h; intro u11 h
      refine h.elim ?_; clear h; intro u12 h
      refine h.elim ?_; clear h; intro u13 h
      refine h.elim ?_; clear h; intro u14 h
      refine h.elim ?_; clear h; intro u15 h
      have hbb := h.1; replace h := h.2; subst hbb
      have hHeld := h.1; replace h := h.2
      have f0 := h.1; replace h := h.2
      have f1 := h.1; replace h := h.2
      have f2 := h.1; replace h := h.2
      have f3 := h.1; replace h := h.2
      have f4 := h.1; replace h := h.2
      have f5 := h.1; replace h := h.2
      have f6 := h.1; replace h := h.2
      have f7 := h.1; replace h := h.2
      have f8 := h.1; replace h := h.2
      have f9 := h.1; replace h := h.2
      have f10 := h.1; replace h := h.2
      have f11 := h; clear h
      intro K hK
      rw [if_pos (by kernel_rfl)]
      have q0 := cellB hHeld C1 hg
      have q1 := cellB hHeld C2 hg
      have q2 := cellB hHeld C3 hg
      go_simp
      try simp only [Act.put, List.setIfInBounds_toArray, List.set_cons_zero, List.set_cons_succ]
      refine hK.out _ _ ⟨_, _, _, _, _, _, _, _, _, _, _, rfl, ?_, ?_, ?_, ?_, ?_, ?_, ?_, ?_, ?_, ?_, ?_, ?_, ?_⟩
      · first | exact hHeld | exact hHeld.trans (hb.mono hHeld.size) | (trace_state; fail)
      · first | exact flag_ne (by decide) f0 | exact fun _ => rfl
      · first | exact flag_ne (by decide) f1 | exact fun _ => rfl
      · intro h; rw [getD_set_ne false (by decide)] at h; have := f2 h; obtain ⟨y1, y2⟩ := this; first | exact ⟨y1, fun h7 => y2 (by rw [getD_set_ne true (by decide)] at h7; exact h7)⟩ | exact ⟨y1, fun h7 => (y2 (by rw [getD_set_ne true (by decide)] at h7; exact h7)).below hb⟩ | exact ⟨y1, fun h7 => by rw [getD_set_self] at h7; cases h7⟩ | (trace_state; fail)
      · intro _; first | rfl | (trace_state; fail)
      · first | exact flag_ne (by decide) f4 | exact fun _ => rfl
      · intro h; rw [getD_set_ne false (by decide)] at h; exact (getD_no h0 (hC.step (j := 4) (k := 3) (hC.step (j := 5) (k := 4) h (by kernel_rfl)) (by kernel_rfl))).elim
      · first | exact flag_ne (by decide) f6 | exact fun _ => rfl
      · first | exact flag_ne (by decide) f7 | exact fun _ => rfl
      · intro h; rw [getD_set_ne false (by decide)] at h; exact (getD_no h0 (hC.step (j := 4) (k := 3) (hC.step (j := 5) (k := 4) (hC.step (j := 8) (k := 5) h (by kernel_rfl)) (by kernel_rfl)) (by kernel_rfl))).elim
      · intro h; rw [getD_set_ne false (by decide)] at h; exact (getD_no h0 (hC.step (j := 4) (k := 3) (hC.step (j := 5) (k := 4) (hC.step (j := 9) (k := 5) h (by kernel_rfl)) (by kernel_rfl)) (by kernel_rfl))).elim
      · intro h h7; rw [getD_set_ne false (by decide)] at h; rw [getD_set_ne true (by decide)] at h7; have := f10 h h7; first | exact this | (obtain ⟨p, z1, z2, z3⟩ := this; exact ⟨p, z1, z2, obj_below z3 hb (heap_lt z3)⟩) | (trace_state; fail)
      · intro h; rw [getD_set_ne false (by decide)] at h; exact (getD_no h0 (hC.step (j := 11) (k := 3) h (by kernel_rfl))).elim
    · refine StepAt.mk (o := { dst := some 10, op := Op.load 24 (Operand.tmp 9), type := 24, pos := _, after := #[{ on := 3, ground := Ground.data }], guard := none }) (ws := [3]) rfl (by kernel_rfl) ?_
      intro L b v hC h0 hA h
      refine h.elim ?_; clear h; intro u5 h
      refine h.elim ?_; clear h; intro u6 h
      refine h.elim ?_; clear h; intro u7 h
      refine h.elim ?_; clear h; intro u8 h
      refine h.elim ?_; clear h; intro u9 h
      refine h.elim ?_; clear h; intro u10 h
      refine h.elim ?_; clear h; intro u11 h
      refine h.elim ?_; clear h; intro u12 h
      refine h.elim ?_; clear h; intro u13 h
      refine h.elim ?_; clear h; intro u14 h
      refine h.elim ?_; clear h; intro u15 h
      have hbb := h.1; replace h := h.2; subst hbb
      have hHeld := h.1; replace h := h.2
      have f0 := h.1; replace h := h.2
      have f1 := h.1; replace h := h.2
      have f2 := h.1; replace h := h.2
      have f3 := h.1; replace h := h.2
      have f4 := h.1; replace h := h.2
      have f5 := h.1; replace h := h.2
      have f6 := h.1; replace h := h.2
      have f7 := h.1; replace h := h.2
      have f8 := h.1; replace h := h.2
      have f9 := h.1; replace h := h.2
      have f10 := h.1; replace h := h.2
      have f11 := h; clear h
      intro K hK
      have g3 := f3 (hA 3 (by simp))
      obtain rfl := g3
      rw [if_pos (by kernel_rfl)]
      have q0 := cellB hHeld C1 hg
      have q1 := cellB hHeld C2 hg
      have q2 := cellB hHeld C3 hg
      go_simp
      try simp only [Act.put, List.setIfInBounds_toArray, List.set_cons_zero, List.set_cons_succ]
      refine hK.out _ _ ⟨_, _, _, _, _, _, _, _, _, _, _, rfl, ?_, ?_, ?_, ?_, ?_, ?_, ?_, ?_, ?_, ?_, ?_, ?_, ?_⟩
      · first | exact hHeld | exact hHeld.trans (hb.mono hHeld.size) | (trace_state; fail)
      · first | exact flag_ne (by decide) f0 | exact fun _ => rfl
      · first | exact flag_ne (by decide) f1 | exact fun _ => rfl
      · intro h; rw [getD_set_ne false (by decide)] at h; have := f2 h; obtain ⟨y1, y2⟩ := this; first | exact ⟨y1, fun h7 => y2 (by rw [getD_set_ne true (by decide)] at h7; exact h7)⟩ | exact ⟨y1, fun h7 => (y2 (by rw [getD_set_ne true (by decide)] at h7; exact h7)).below hb⟩ | exact ⟨y1, fun h7 => by rw [getD_set_self] at h7; cases h7⟩ | (trace_state; fail)
      · first | exact flag_ne (by decide) f3 | exact fun _ => rfl
      · intro _; first | rfl | (trace_state; fail)
      · intro h; rw [getD_set_ne false (by decide)] at h; exact (getD_no h0 (hC.step (j := 5) (k := 4) h (by kernel_rfl))).elim
      · first | exact flag_ne (by decide) f6 | exact fun _ => rfl
      · first | exact flag_ne (by decide) f7 | exact fun _ => rfl
      · intro h; rw [getD_set_ne false (by decide)] at h; exact (getD_no h0 (hC.step (j := 5) (k := 4) (hC.step (j := 8) (k := 5) h (by kernel_rfl)) (by kernel_rfl))).elim
      · intro h; rw [getD_set_ne false (by decide)] at h; exact (getD_no h0 (hC.step (j := 5) (k := 4) (hC.step (j := 9) (k := 5) h (by kernel_rfl)) (by kernel_rfl))).elim
      · intro h h7; rw [getD_set_ne false (by decide)] at h; rw [getD_set_ne true (by decide)] at h7; have := f10 h h7; first | exact this | (obtain ⟨p, z1, z2, z3⟩ := this; exact ⟨p, z1, z2, obj_below z3 hb (heap_lt z3)⟩) | (trace_state; fail)
      · intro h; rw [getD_set_ne false (by decide)] at h; exact (getD_no h0 (hC.step (j := 11) (k := 4) h (by kernel_rfl))).elim
    · refine StepAt.mk (o := { dst := some 11, op := Op.call { callee := Callee.value (Operand.func 39), args := #[Operand.tmp 10], argTypes := #[24] }, type := 24, pos := _, after := #[{ on := 4, ground := Ground.data }, { on := 2, ground := Ground.chain }], guard := none }) (ws := [4, 2]) rfl (by kernel_rfl) ?_
      intro L b v hC h0 hA h
      refine h.elim ?_; clear h; intro u5 h
      refine h.elim ?_; clear h; intro u6 h
      refine h.elim ?_; clear h; intro u7 h
      refine h.elim ?_; clear h; intro u8 h
      refine h.elim ?_; clear h; intro u9 h
      refine h.elim ?_; clear h; intro u10 h
      refine h.elim ?_; clear h; intro u11 h
      refine h.elim ?_; clear h; intro u12 h
      refine h.elim ?_; clear h; intro u13 h
      refine h.elim ?_; clear h; intro u14 h
      refine h.elim ?_; clear h; intro u15 h
      have hbb := h.1; replace h := h.2; subst hbb
      have hHeld := h.1; replace h := h.2
      have f0 := h.1; replace h := h.2
      have f1 := h.1; replace h := h.2
      have f2 := h.1; replace h := h.2
      have f3 := h.1; replace h := h.2
      have f4 := h.1; replace h := h.2
      have f5 := h.1; replace h := h.2
      have f6 := h.1; replace h := h.2
      have f7 := h.1; replace h := h.2
      have f8 := h.1; replace h := h.2
      have f9 := h.1; replace h := h.2
      have f10 := h.1; replace h := h.2
      have f11 := h; clear h
      intro K hK
      have g4 := f4 (hA 4 (by simp))
      obtain rfl := g4
      have g2 := f2 (hA 2 (by simp))
      obtain ⟨⟨a8, c8, rfl⟩, H8⟩ := g2
      rw [if_pos (by kernel_rfl)]
      have q0 := cellB hHeld C1 hg
      have q1 := cellB hHeld C2 hg
      have q2 := cellB hHeld C3 hg
      go_simp
      refine (clone_blkO _ B v (HK.out v hHeld) hB blk_one).mono ?_; rintro e v1 ⟨r, rfl, HO, hb⟩; obtain ⟨ar, cr, rfl⟩ := HO.form
      go_wp2_with fail
      try simp only [Act.put, List.setIfInBounds_toArray, List.set_cons_zero, List.set_cons_succ]
      refine hK.out _ _ ⟨_, _, _, _, _, _, _, _, _, _, _, rfl, ?_, ?_, ?_, ?_, ?_, ?_, ?_, ?_, ?_, ?_, ?_, ?_, ?_⟩
      · first | exact hHeld | exact hHeld.trans (hb.mono hHeld.size) | (trace_state; fail)
      · first | exact flag_ne (by decide) f0 | exact fun _ => rfl
      · first | exact flag_ne (by decide) f1 | exact fun _ => rfl
      · intro h; rw [getD_set_ne false (by decide)] at h; have := f2 h; obtain ⟨y1, y2⟩ := this; first | exact ⟨y1, fun h7 => y2 (by rw [getD_set_ne true (by decide)] at h7; exact h7)⟩ | exact ⟨y1, fun h7 => (y2 (by rw [getD_set_ne true (by decide)] at h7; exact h7)).below hb⟩ | exact ⟨y1, fun h7 => by rw [getD_set_self] at h7; cases h7⟩ | (trace_state; fail)
      · first | exact flag_ne (by decide) f3 | exact fun _ => rfl
      · first | exact flag_ne (by decide) f4 | exact fun _ => rfl
      · intro _; first | exact ⟨⟨_, _, rfl⟩, fun _ => HO.low hHeld.size⟩ | (trace_state; fail)
      · first | exact flag_ne (by decide) f6 | exact fun _ => rfl
      · first | exact flag_ne (by decide) f7 | exact fun _ => rfl
      · intro h; rw [getD_set_ne false (by decide)] at h; exact (getD_no h0 (hC.step (j := 8) (k := 5) h (by kernel_rfl))).elim
      · intro h; rw [getD_set_ne false (by decide)] at h; exact (getD_no h0 (hC.step (j := 9) (k := 5) h (by kernel_rfl))).elim
      · intro h h7; rw [getD_set_ne false (by decide)] at h; rw [getD_set_ne true (by decide)] at h7; have := f10 h h7; first | exact this | (obtain ⟨p, z1, z2, z3⟩ := this; exact ⟨p, z1, z2, obj_below z3 hb (heap_lt z3)⟩) | (trace_state; fail)
      · intro h; rw [getD_set_ne false (by decide)] at h; exact (getD_no h0 (hC.step (j := 11) (k := 5) h (by kernel_rfl))).elim
    · refine StepAt.mk (o := { dst := some 12, op := Op.fieldAddr 27 (Operand.tmp 2) 3, type := 0, pos := _, after := #[], guard := none }) (ws := []) rfl (by kernel_rfl) ?_
      intro L b v hC h0 hA h
      refine h.elim ?_; clear h; intro u5 h
      refine h.elim ?_; clear h; intro u6 h
      refine h.elim ?_; clear h; intro u7 h
      refine h.elim ?_; clear h; intro u8 h
      refine h.elim ?_; clear h; intro u9 h
      refine h.elim ?_; clear h; intro u10 h
      refine h.elim ?_; clear h; intro u11 h
      refine h.elim ?_; clear h; intro u12 h
      refine h.elim ?_; clear h; intro u13 h
      refine h.elim ?_; clear h; intro u14 h
      refine h.elim ?_; clear h; intro u15 h
      have hbb := h.1; replace h := h.2; subst hbb
      have hHeld := h.1; replace h := h.2
      have f0 := h.1; replace h := h.2
      have f1 := h.1; replace h := h.2
      have f2 := h.1; replace h := h.2
      have f3 := h.1; replace h := h.2
      have f4 := h.1; replace h := h.2
      have f5 := h.1; replace h := h.2
      have f6 := h.1; replace h := h.2
      have f7 := h.1; replace h := h.2
      have f8 := h.1; replace h := h.2
      have f9 := h.1; replace h := h.2
      have f10 := h.1; replace h := h.2
      have f11 := h; clear h
      intro K hK
      rw [if_pos (by kernel_rfl)]
      have q0 := cellB hHeld C1 hg
      have q1 := cellB hHeld C2 hg
      have q2 := cellB hHeld C3 hg
      go_simp
      try simp only [Act.put, List.setIfInBounds_toArray, List.set_cons_zero, List.set_cons_succ]
      refine hK.out _ _ ⟨_, _, _, _, _, _, _, _, _, _, _, rfl, ?_, ?_, ?_, ?_, ?_, ?_, ?_, ?_, ?_, ?_, ?_, ?_, ?_⟩
      · first | exact hHeld | exact hHeld.trans (hb.mono hHeld.size) | (trace_state; fail)
      · first | exact flag_ne (by decide) f0 | exact fun _ => rfl
      · first | exact flag_ne (by decide) f1 | exact fun _ => rfl
      · intro h; rw [getD_set_ne false (by decide)] at h; have := f2 h; obtain ⟨y1, y2⟩ := this; first | exact ⟨y1, fun h7 => y2 (by rw [getD_set_ne true (by decide)] at h7; exact h7)⟩ | exact ⟨y1, fun h7 => (y2 (by rw [getD_set_ne true (by decide)] at h7; exact h7)).below hb⟩ | exact ⟨y1, fun h7 => by rw [getD_set_self] at h7; cases h7⟩ | (trace_state; fail)
      · first | exact flag_ne (by decide) f3 | exact fun _ => rfl
      · first | exact flag_ne (by decide) f4 | exact fun _ => rfl
      · intro h; rw [getD_set_ne false (by decide)] at h; have := f5 h; obtain ⟨y1, y2⟩ := this; first | exact ⟨y1, fun h7 => y2 (by rw [getD_set_ne true (by decide)] at h7; exact h7)⟩ | exact ⟨y1, fun h7 => (y2 (by rw [getD_set_ne true (by decide)] at h7; exact h7)).below hb⟩ | exact ⟨y1, fun h7 => by rw [getD_set_self] at h7; cases h7⟩ | (trace_state; fail)
      · intro _; first | rfl | (trace_state; fail)
      · first | exact flag_ne (by decide) f7 | exact fun _ => rfl
      · intro h; rw [getD_set_ne false (by decide)] at h; exact (getD_no h0 (hC.step (j := 7) (k := 6) (hC.step (j := 8) (k := 7) h (by kernel_rfl)) (by kernel_rfl))).elim
      · intro h; rw [getD_set_ne false (by decide)] at h; exact (getD_no h0 (hC.step (j := 7) (k := 6) (hC.step (j := 8) (k := 7) (hC.step (j := 9) (k := 8) h (by kernel_rfl)) (by kernel_rfl)) (by kernel_rfl))).elim
      · intro h h7; rw [getD_set_ne false (by decide)] at h; rw [getD_set_ne true (by decide)] at h7; have := f10 h h7; first | exact this | (obtain ⟨p, z1, z2, z3⟩ := this; exact ⟨p, z1, z2, obj_below z3 hb (heap_lt z3)⟩) | (trace_state; fail)
      · intro h; rw [getD_set_ne false (by decide)] at h; exact (getD_no h0 (hC.step (j := 11) (k := 6) h (by kernel_rfl))).elim
    · refine StepAt.mk (o := { dst := some 13, op := Op.load 25 (Operand.tmp 12), type := 25, pos := _, after := #[{ on := 6, ground := Ground.data }], guard := none }) (ws := [6]) rfl (by kernel_rfl) ?_
      intro L b v hC h0 hA h
      refine h.elim ?_; clear h; intro u5 h
      refine h.elim ?_; clear h; intro u6 h
      refine h.elim ?_; clear h; intro u7 h
      refine h.elim ?_; clear h; intro u8 h
      refine h.elim ?_; clear h; intro u9 h
      refine h.elim ?_; clear h; intro u10 h
      refine h.elim ?_; clear h; intro u11 h
      refine h.elim ?_; clear h; intro u12 h
      refine h.elim ?_; clear h; intro u13 h
      refine h.elim ?_; clear h; intro u14 h
      refine h.elim ?_; clear h; intro u15 h
      have hbb := h.1; replace h := h.2; subst hbb
      have hHeld := h.1; replace h := h.2
      have f0 := h.1; replace h := h.2
      have f1 := h.1; replace h := h.2
      have f2 := h.1; replace h := h.2
      have f3 := h.1; replace h := h.2
      have f4 := h.1; replace h := h.2
      have f5 := h.1; replace h := h.2
      have f6 := h.1; replace h := h.2
      have f7 := h.1; replace h := h.2
      have f8 := h.1; replace h := h.2
      have f9 := h.1; replace h := h.2
      have f10 := h.1; replace h := h.2
      have f11 := h; clear h
      intro K hK
      have g6 := f6 (hA 6 (by simp))
      obtain rfl := g6
      rw [if_pos (by kernel_rfl)]
      have q0 := cellB hHeld C1 hg
      have q1 := cellB hHeld C2 hg
      have q2 := cellB hHeld C3 hg
      go_simp
      try simp only [Act.put, List.setIfInBounds_toArray, List.set_cons_zero, List.set_cons_succ]
      refine hK.out _ _ ⟨_, _, _, _, _, _, _, _, _, _, _, rfl, ?_, ?_, ?_, ?_, ?_, ?_, ?_, ?_, ?_, ?_, ?_, ?_, ?_⟩
      · first | exact hHeld | exact hHeld.trans (hb.mono hHeld.size) | (trace_state; fail)
      · first | exact flag_ne (by decide) f0 | exact fun _ => rfl
      · first | exact flag_ne (by decide) f1 | exact fun _ => rfl
      · intro h; rw [getD_set_ne false (by decide)] at h; have := f2 h; obtain ⟨y1, y2⟩ := this; first | exact ⟨y1, fun h7 => y2 (by rw [getD_set_ne true (by decide)] at h7; exact h7)⟩ | exact ⟨y1, fun h7 => (y2 (by rw [getD_set_ne true (by decide)] at h7; exact h7)).below hb⟩ | exact ⟨y1, fun h7 => by rw [getD_set_self] at h7; cases h7⟩ | (trace_state; fail)
      · first | exact flag_ne (by decide) f3 | exact fun _ => rfl
      · first | exact flag_ne (by decide) f4 | exact fun _ => rfl
      · intro h; rw [getD_set_ne false (by decide)] at h; have := f5 h; obtain ⟨y1, y2⟩ := this; first | exact ⟨y1, fun h7 => y2 (by rw [getD_set_ne true (by decide)] at h7; exact h7)⟩ | exact ⟨y1, fun h7 => (y2 (by rw [getD_set_ne true (by decide)] at h7; exact h7)).below hb⟩ | exact ⟨y1, fun h7 => by rw [getD_set_self] at h7; cases h7⟩ | (trace_state; fail)
      · first | exact flag_ne (by decide) f6 | exact fun _ => rfl
      · intro _; first | rfl | (trace_state; fail)
      · intro h; rw [getD_set_ne false (by decide)] at h; exact (getD_no h0 (hC.step (j := 8) (k := 7) h (by kernel_rfl))).elim
      · intro h; rw [getD_set_ne false (by decide)] at h; exact (getD_no h0 (hC.step (j := 8) (k := 7) (hC.step (j := 9) (k := 8) h (by kernel_rfl)) (by kernel_rfl))).elim
      · intro h h7; rw [getD_set_ne false (by decide)] at h; rw [getD_set_ne true (by decide)] at h7; have := f10 h h7; first | exact this | (obtain ⟨p, z1, z2, z3⟩ := this; exact ⟨p, z1, z2, obj_below z3 hb (heap_lt z3)⟩) | (trace_state; fail)
      · intro h; rw [getD_set_ne false (by decide)] at h; exact (getD_no h0 (hC.step (j := 11) (k := 7) h (by kernel_rfl))).elim
    · refine StepAt.mk (o := { dst := some 14, op := Op.call { callee := Callee.value (Operand.func 17), args := #[Operand.tmp 13], argTypes := #[25] }, type := 34, pos := _, after := #[{ on := 7, ground := Ground.data }, { on := 5, ground := Ground.chain }], guard := none }) (ws := [7, 5]) rfl (by kernel_rfl) ?_
      intro L b v hC h0 hA h
      refine h.elim ?_; clear h; intro u5 h
      refine h.elim ?_; clear h; intro u6 h
      refine h.elim ?_; clear h; intro u7 h
      refine h.elim ?_; clear h; intro u8 h
      refine h.elim ?_; clear h; intro u9 h
      refine h.elim ?_; clear h; intro u10 h
      refine h.elim ?_; clear h; intro u11 h
      refine h.elim ?_; clear h; intro u12 h
      refine h.elim ?_; clear h; intro u13 h
      refine h.elim ?_; clear h; intro u14 h
      refine h.elim ?_; clear h; intro u15 h
      have hbb := h.1; replace h := h.2; subst hbb
      have hHeld := h.1; replace h := h.2
      have f0 := h.1; replace h := h.2
      have f1 := h.1; replace h := h.2
      have f2 := h.1; replace h := h.2
      have f3 := h.1; replace h := h.2
      have f4 := h.1; replace h := h.2
      have f5 := h.1; replace h := h.2
      have f6 := h.1; replace h := h.2
      have f7 := h.1; replace h := h.2
      have f8 := h.1; replace h := h.2
      have f9 := h.1; replace h := h.2
      have f10 := h.1; replace h := h.2
      have f11 := h; clear h
      intro K hK
      have g7 := f7 (hA 7 (by simp))
      obtain rfl := g7
      have g5 := f5 (hA 5 (by simp))
      obtain ⟨⟨a11, c11, rfl⟩, H11⟩ := g5
      rw [if_pos (by kernel_rfl)]
      have q0 := cellB hHeld C1 hg
      have q1 := cellB hHeld C2 hg
      have q2 := cellB hHeld C3 hg
      go_simp
      refine (decl_SigsO _ us v (HU.out v hHeld) hf hn).mono ?_; rintro e v1 ⟨r, rfl, HO, hb⟩; obtain ⟨ar, cr, rfl⟩ := HO.form
      go_wp2_with fail
      try simp only [Act.put, List.setIfInBounds_toArray, List.set_cons_zero, List.set_cons_succ]
      refine hK.out _ _ ⟨_, _, _, _, _, _, _, _, _, _, _, rfl, ?_, ?_, ?_, ?_, ?_, ?_, ?_, ?_, ?_, ?_, ?_, ?_, ?_⟩
      · first | exact hHeld | exact hHeld.trans (hb.mono hHeld.size) | (trace_state; fail)
      · first | exact flag_ne (by decide) f0 | exact fun _ => rfl
      · first | exact flag_ne (by decide) f1 | exact fun _ => rfl
      · intro h; rw [getD_set_ne false (by decide)] at h; have := f2 h; obtain ⟨y1, y2⟩ := this; first | exact ⟨y1, fun h7 => y2 (by rw [getD_set_ne true (by decide)] at h7; exact h7)⟩ | exact ⟨y1, fun h7 => (y2 (by rw [getD_set_ne true (by decide)] at h7; exact h7)).below hb⟩ | exact ⟨y1, fun h7 => by rw [getD_set_self] at h7; cases h7⟩ | (trace_state; fail)
      · first | exact flag_ne (by decide) f3 | exact fun _ => rfl
      · first | exact flag_ne (by decide) f4 | exact fun _ => rfl
      · intro h; rw [getD_set_ne false (by decide)] at h; have := f5 h; obtain ⟨y1, y2⟩ := this; first | exact ⟨y1, fun h7 => y2 (by rw [getD_set_ne true (by decide)] at h7; exact h7)⟩ | exact ⟨y1, fun h7 => (y2 (by rw [getD_set_ne true (by decide)] at h7; exact h7)).below hb⟩ | exact ⟨y1, fun h7 => by rw [getD_set_self] at h7; cases h7⟩ | (trace_state; fail)
      · first | exact flag_ne (by decide) f6 | exact fun _ => rfl
      · first | exact flag_ne (by decide) f7 | exact fun _ => rfl
      · intro _; first | exact ⟨⟨_, _, rfl⟩, fun _ => HO.low hHeld.size⟩ | (trace_state; fail)
      · intro h; rw [getD_set_ne false (by decide)] at h; exact (getD_no h0 (hC.step (j := 9) (k := 8) h (by kernel_rfl))).elim
      · intro h h7; rw [getD_set_ne false (by decide)] at h; rw [getD_set_ne true (by decide)] at h7; have := f10 h h7; first | exact this | (obtain ⟨p, z1, z2, z3⟩ := this; exact ⟨p, z1, z2, obj_below z3 hb (heap_lt z3)⟩) | (trace_state; fail)
      · intro h; rw [getD_set_ne false (by decide)] at h; exact (getD_no h0 (hC.step (j := 11) (k := 8) h (by kernel_rfl))).elim
    · refine StepAt.mk (o := { dst := some 15, op := Op.build 37 #[(0, Operand.tmp 8), (1, Operand.tmp 11), (2, Operand.tmp 14)], type := 37, pos := _, after := #[{ on := 2, ground := Ground.data }, { on := 5, ground := Ground.data }, { on := 8, ground := Ground.data }], guard := none }) (ws := [2, 5, 8]) rfl (by kernel_rfl) ?_
      intro L b v hC h0 hA h
      refine h.elim ?_; clear h; intro u5 h
      refine h.elim ?_; clear h; intro u6 h
      refine h.elim ?_; clear h; intro u7 h
      refine h.elim ?_; clear h; intro u8 h
      refine h.elim ?_; clear h; intro u9 h
      refine h.elim ?_; clear h; intro u10 h
      refine h.elim ?_; clear h; intro u11 h
      refine h.elim ?_; clear h; intro u12 h
      refine h.elim ?_; clear h; intro u13 h
      refine h.elim ?_; clear h; intro u14 h
      refine h.elim ?_; clear h; intro u15 h
      have hbb := h.1; replace h := h.2; subst hbb
      have hHeld := h.1; replace h := h.2
      have f0 := h.1; replace h := h.2
      have f1 := h.1; replace h := h.2
      have f2 := h.1; replace h := h.2
      have f3 := h.1; replace h := h.2
      have f4 := h.1; replace h := h.2
      have f5 := h.1; replace h := h.2
      have f6 := h.1; replace h := h.2
      have f7 := h.1; replace h := h.2
      have f8 := h.1; replace h := h.2
      have f9 := h.1; replace h := h.2
      have f10 := h.1; replace h := h.2
      have f11 := h; clear h
      intro K hK
      have g2 := f2 (hA 2 (by simp))
      obtain ⟨⟨a8, c8, rfl⟩, H8⟩ := g2
      have g5 := f5 (hA 5 (by simp))
      obtain ⟨⟨a11, c11, rfl⟩, H11⟩ := g5
      have g8 := f8 (hA 8 (by simp))
      obtain ⟨⟨a14, c14, rfl⟩, H14⟩ := g8
      rw [if_pos (by kernel_rfl)]
      have q0 := cellB hHeld C1 hg
      have q1 := cellB hHeld C2 hg
      have q2 := cellB hHeld C3 hg
      go_simp
      try simp only [Act.put, List.setIfInBounds_toArray, List.set_cons_zero, List.set_cons_succ]
      refine hK.out _ _ ⟨_, _, _, _, _, _, _, _, _, _, _, rfl, ?_, ?_, ?_, ?_, ?_, ?_, ?_, ?_, ?_, ?_, ?_, ?_, ?_⟩
      · first | exact hHeld | exact hHeld.trans (hb.mono hHeld.size) | (trace_state; fail)
      · first | exact flag_ne (by decide) f0 | exact fun _ => rfl
      · first | exact flag_ne (by decide) f1 | exact fun _ => rfl
      · intro h; rw [getD_set_ne false (by decide)] at h; have := f2 h; obtain ⟨y1, y2⟩ := this; first | exact ⟨y1, fun h7 => y2 (by rw [getD_set_ne true (by decide)] at h7; exact h7)⟩ | exact ⟨y1, fun h7 => (y2 (by rw [getD_set_ne true (by decide)] at h7; exact h7)).below hb⟩ | exact ⟨y1, fun h7 => by rw [getD_set_self] at h7; cases h7⟩ | (trace_state; fail)
      · first | exact flag_ne (by decide) f3 | exact fun _ => rfl
      · first | exact flag_ne (by decide) f4 | exact fun _ => rfl
      · intro h; rw [getD_set_ne false (by decide)] at h; have := f5 h; obtain ⟨y1, y2⟩ := this; first | exact ⟨y1, fun h7 => y2 (by rw [getD_set_ne true (by decide)] at h7; exact h7)⟩ | exact ⟨y1, fun h7 => (y2 (by rw [getD_set_ne true (by decide)] at h7; exact h7)).below hb⟩ | exact ⟨y1, fun h7 => by rw [getD_set_self] at h7; cases h7⟩ | (trace_state; fail)
      · first | exact flag_ne (by decide) f6 | exact fun _ => rfl
      · first | exact flag_ne (by decide) f7 | exact fun _ => rfl
      · intro h; rw [getD_set_ne false (by decide)] at h; have := f8 h; obtain ⟨y1, y2⟩ := this; first | exact ⟨y1, fun h7 => y2 (by rw [getD_set_ne true (by decide)] at h7; exact h7)⟩ | exact ⟨y1, fun h7 => (y2 (by rw [getD_set_ne true (by decide)] at h7; exact h7)).below hb⟩ | exact ⟨y1, fun h7 => by rw [getD_set_self] at h7; cases h7⟩ | (trace_state; fail)
      · intro _; first | exact ⟨rfl, rfl⟩ | (trace_state; fail)
      · intro h h7; rw [getD_set_ne false (by decide)] at h; rw [getD_set_ne true (by decide)] at h7; have := f10 h h7; first | exact this | (obtain ⟨p, z1, z2, z3⟩ := this; exact ⟨p, z1, z2, obj_below z3 hb (heap_lt z3)⟩) | (trace_state; fail)
      · intro h; rw [getD_set_ne false (by decide)] at h; exact (getD_no h0 (hC.step (j := 11) (k := 9) h (by kernel_rfl))).elim
    · refine StepAt.mk (o := { dst := some 5, op := Op.alloc 37, type := 0, pos := _, after := #[], guard := none }) (ws := []) rfl (by kernel_rfl) ?_
      intro L b v hC h0 hA h
      refine h.elim ?_; clear h; intro u5 h
      refine h.elim ?_; clear h; intro u6 h
      refine h.elim ?_; clear h; intro u7 h
      refine h.elim ?_; clear h; intro u8 h
      refine h.elim ?_; clear h; intro u9 h
      refine h.elim ?_; clear h; intro u10 h
      refine h.elim ?_; clear h; intro u11 h
      refine h.elim ?_; clear h; intro u12 h
      refine h.elim ?_; clear h; intro u13 h
      refine h.elim ?_; clear h; intro u14 h
      refine h.elim ?_; clear h; intro u15 h
      have hbb := h.1; replace h := h.2; subst hbb
      have hHeld := h.1; replace h := h.2
      have f0 := h.1; replace h := h.2
      have f1 := h.1; replace h := h.2
      have f2 := h.1; replace h := h.2
      have f3 := h.1; replace h := h.2
      have f4 := h.1; replace h := h.2
      have f5 := h.1; replace h := h.2
      have f6 := h.1; replace h := h.2
      have f7 := h.1; replace h := h.2
      have f8 := h.1; replace h := h.2
      have f9 := h.1; replace h := h.2
      have f10 := h.1; replace h := h.2
      have f11 := h; clear h
      intro K hK
      rw [if_pos (by kernel_rfl)]
      have q0 := cellB hHeld C1 hg
      have q1 := cellB hHeld C2 hg
      have q2 := cellB hHeld C3 hg
      go_simp
      try simp only [Act.put, List.setIfInBounds_toArray, List.set_cons_zero, List.set_cons_succ]
      have hb : Below v.heap.size v (v.alloc (.cells #[.slice none 0 0, .slice none 0 0, .slice none 0 0, .slice none 0 0] 37)) := (Below.refl _ _).alloc (Nat.le_refl _) _
      refine hK.out _ _ ⟨_, _, _, _, _, _, _, _, _, _, _, rfl, ?_, ?_, ?_, ?_, ?_, ?_, ?_, ?_, ?_, ?_, ?_, ?_, ?_⟩
      · exact hHeld.alloc hHeld.size _
      · first | exact flag_ne (by decide) f0 | exact fun _ => rfl
      · first | exact flag_ne (by decide) f1 | exact fun _ => rfl
      · intro h; rw [getD_set_ne false (by decide)] at h; have := f2 h; obtain ⟨y1, y2⟩ := this; first | exact ⟨y1, fun h7 => y2 (by rw [getD_set_ne true (by decide)] at h7; exact h7)⟩ | exact ⟨y1, fun h7 => (y2 (by rw [getD_set_ne true (by decide)] at h7; exact h7)).below hb⟩ | exact ⟨y1, fun h7 => by rw [getD_set_self] at h7; cases h7⟩ | (trace_state; fail)
      · first | exact flag_ne (by decide) f3 | exact fun _ => rfl
      · first | exact flag_ne (by decide) f4 | exact fun _ => rfl
      · intro h; rw [getD_set_ne false (by decide)] at h; have := f5 h; obtain ⟨y1, y2⟩ := this; first | exact ⟨y1, fun h7 => y2 (by rw [getD_set_ne true (by decide)] at h7; exact h7)⟩ | exact ⟨y1, fun h7 => (y2 (by rw [getD_set_ne true (by decide)] at h7; exact h7)).below hb⟩ | exact ⟨y1, fun h7 => by rw [getD_set_self] at h7; cases h7⟩ | (trace_state; fail)
      · first | exact flag_ne (by decide) f6 | exact fun _ => rfl
      · first | exact flag_ne (by decide) f7 | exact fun _ => rfl
      · intro h; rw [getD_set_ne false (by decide)] at h; have := f8 h; obtain ⟨y1, y2⟩ := this; first | exact ⟨y1, fun h7 => y2 (by rw [getD_set_ne true (by decide)] at h7; exact h7)⟩ | exact ⟨y1, fun h7 => (y2 (by rw [getD_set_ne true (by decide)] at h7; exact h7)).below hb⟩ | exact ⟨y1, fun h7 => by rw [getD_set_self] at h7; cases h7⟩ | (trace_state; fail)
      · intro h; rw [getD_set_ne false (by decide)] at h; have := f9 h; exact ⟨this.1, rfl⟩
      · intro _ _; first | (exact ⟨_, rfl, hHeld.size, get_last rfl⟩) | (trace_state; fail)
      · intro h; rw [getD_set_ne false (by decide)] at h; exact (getD_no h0 (hC.step (j := 11) (k := 10) h (by kernel_rfl))).elim
    · refine StepAt.mk (o := { dst := none, op := Op.store 37 (Operand.tmp 5) (Operand.tmp 15), type := 0, pos := _, after := #[{ on := 10, ground := Ground.data }, { on := 9, ground := Ground.data }, { on := 8, ground := Ground.chain }, { on := 0, ground := Ground.phase }, { on := 1, ground := Ground.phase }, { on := 2, ground := Ground.phase }, { on := 3, ground := Ground.phase }, { on := 4, ground := Ground.phase }, { on := 5, ground := Ground.phase }, { on := 6, ground := Ground.phase }, { on := 7, ground := Ground.phase }, { on := 8, ground := Ground.phase }, { on := 9, ground := Ground.phase }, { on := 10, ground := Ground.phase }], guard := none }) (ws := [10, 9, 8, 0, 1, 2, 3, 4, 5, 6, 7, 8, 9, 10]) rfl (by kernel_rfl) ?_
      intro L b v hC h0 hA h
      refine h.elim ?_; clear h; intro u5 h
      refine h.elim ?_; clear h; intro u6 h
      refine h.elim ?_; clear h; intro u7 h
      refine h.elim ?_; clear h; intro u8 h
      refine h.elim ?_; clear h; intro u9 h
      refine h.elim ?_; clear h; intro u10 h
      refine h.elim ?_; clear h; intro u11 h
      refine h.elim ?_; clear h; intro u12 h
      refine h.elim ?_; clear h; intro u13 h
      refine h.elim ?_; clear h; intro u14 h
      refine h.elim ?_; clear h; intro u15 h
      have hbb := h.1; replace h := h.2; subst hbb
      have hHeld := h.1; replace h := h.2
      have f0 := h.1; replace h := h.2
      have f1 := h.1; replace h := h.2
      have f2 := h.1; replace h := h.2
      have f3 := h.1; replace h := h.2
      have f4 := h.1; replace h := h.2
      have f5 := h.1; replace h := h.2
      have f6 := h.1; replace h := h.2
      have f7 := h.1; replace h := h.2
      have f8 := h.1; replace h := h.2
      have f9 := h.1; replace h := h.2
      have f10 := h.1; replace h := h.2
      have f11 := h; clear h
      intro K hK
      have g10 := f10 (hA 10 (by simp)) h0
      obtain ⟨p5, rfl, hpw, hp5⟩ := g10
      have g9 := f9 (hA 9 (by simp))
      obtain ⟨rfl, _⟩ := g9
      have g8 := f8 (hA 8 (by simp))
      obtain ⟨⟨a14, c14, rfl⟩, H14⟩ := g8
      have g0 := f0 (hA 0 (by simp))
      obtain rfl := g0
      have g1 := f1 (hA 1 (by simp))
      obtain rfl := g1
      have g2 := f2 (hA 2 (by simp))
      obtain ⟨⟨a8, c8, rfl⟩, H8⟩ := g2
      have g3 := f3 (hA 3 (by simp))
      obtain rfl := g3
      have g4 := f4 (hA 4 (by simp))
      obtain rfl := g4
      have g5 := f5 (hA 5 (by simp))
      obtain ⟨⟨a11, c11, rfl⟩, H11⟩ := g5
      have g6 := f6 (hA 6 (by simp))
      obtain rfl := g6
      have g7 := f7 (hA 7 (by simp))
      obtain rfl := g7
      have H8 := H8 h0
      have H11 := H11 h0
      have H14 := H14 h0
      have z0 := obj_frozen hp5 0
      have k1 := obj_self (i := 0) (x := .slice a8 V.length c8) hp5
      have z1 := obj_frozen k1 1
      have k2 := obj_self (i := 1) (x := .slice a11 B.length c11) k1
      have z2 := obj_frozen k2 2
      have k3 := obj_self (i := 2) (x := .slice a14 us.length c14) k2
      have z3 := obj_frozen k3 3
      have k4 := obj_self (i := 3) (x := .slice none 0 0) k3
      have d0 := obj_cell hp5 (i := 0) rfl
      have d1 := obj_cell k1 (i := 1) rfl
      have d2 := obj_cell k2 (i := 2) rfl
      have d3 := obj_cell k3 (i := 3) rfl
      have H8d := (((H8.set (i := 0) (x := .slice a8 V.length c8) hp5 (by decide)).set (i := 1) (x := .slice a11 B.length c11) k1 (by decide)).set (i := 2) (x := .slice a14 us.length c14) k2 (by decide)).set (i := 3) (x := .slice none 0 0) k3 (by decide)
      have H11d := (((H11.set (i := 0) (x := .slice a8 V.length c8) hp5 (by decide)).set (i := 1) (x := .slice a11 B.length c11) k1 (by decide)).set (i := 2) (x := .slice a14 us.length c14) k2 (by decide)).set (i := 3) (x := .slice none 0 0) k3 (by decide)
      have H14d := (((H14.set (i := 0) (x := .slice a8 V.length c8) hp5 (by decide) (by decide)).set (i := 1) (x := .slice a11 B.length c11) k1 (by decide) (by decide)).set (i := 2) (x := .slice a14 us.length c14) k2 (by decide) (by decide)).set (i := 3) (x := .slice none 0 0) k3 (by decide) (by decide)
      rw [if_pos (by kernel_rfl)]
      have q0 := cellB hHeld C1 hg
      have q1 := cellB hHeld C2 hg
      have q2 := cellB hHeld C3 hg
      go_simp
      try simp only [Act.put, List.setIfInBounds_toArray, List.set_cons_zero, List.set_cons_succ]
      refine hK.out _ _ ⟨_, _, _, _, _, _, _, _, _, _, _, rfl, ?_, ?_, ?_, ?_, ?_, ?_, ?_, ?_, ?_, ?_, ?_, ?_, ?_⟩
      · exact (((hHeld.setCell (p := ⟨p5, 0, none⟩) hpw _).setCell (p := ⟨p5, 1, none⟩) hpw _).setCell (p := ⟨p5, 2, none⟩) hpw _).setCell (p := ⟨p5, 3, none⟩) hpw _
      · first | exact flag_ne (by decide) f0 | exact fun _ => rfl
      · first | exact flag_ne (by decide) f1 | exact fun _ => rfl
      · intro h; rw [getD_set_ne false (by decide)] at h; have := f2 h; obtain ⟨y1, y2⟩ := this; first | exact ⟨y1, fun h7 => y2 (by rw [getD_set_ne true (by decide)] at h7; exact h7)⟩ | exact ⟨y1, fun h7 => (y2 (by rw [getD_set_ne true (by decide)] at h7; exact h7)).below hb⟩ | exact ⟨y1, fun h7 => by rw [getD_set_self] at h7; cases h7⟩ | (trace_state; fail)
      · first | exact flag_ne (by decide) f3 | exact fun _ => rfl
      · first | exact flag_ne (by decide) f4 | exact fun _ => rfl
      · intro h; rw [getD_set_ne false (by decide)] at h; have := f5 h; obtain ⟨y1, y2⟩ := this; first | exact ⟨y1, fun h7 => y2 (by rw [getD_set_ne true (by decide)] at h7; exact h7)⟩ | exact ⟨y1, fun h7 => (y2 (by rw [getD_set_ne true (by decide)] at h7; exact h7)).below hb⟩ | exact ⟨y1, fun h7 => by rw [getD_set_self] at h7; cases h7⟩ | (trace_state; fail)
      · first | exact flag_ne (by decide) f6 | exact fun _ => rfl
      · first | exact flag_ne (by decide) f7 | exact fun _ => rfl
      · intro h; rw [getD_set_ne false (by decide)] at h; have := f8 h; obtain ⟨y1, y2⟩ := this; first | exact ⟨y1, fun h7 => y2 (by rw [getD_set_ne true (by decide)] at h7; exact h7)⟩ | exact ⟨y1, fun h7 => (y2 (by rw [getD_set_ne true (by decide)] at h7; exact h7)).below hb⟩ | exact ⟨y1, fun h7 => by rw [getD_set_self] at h7; cases h7⟩ | (trace_state; fail)
      · intro h; rw [getD_set_ne false (by decide)] at h; have := f9 h; exact ⟨this.1, rfl⟩
      · intro _ h7; rw [getD_set_self] at h7; cases h7
      · intro _; first | exact ⟨_, _, _, _, _, _, _, rfl, hpw, k4, H8d, H11d, H14d⟩ | (trace_state; fail)
  intro L b v hA h
  refine h.elim ?_; clear h; intro u5 h
  refine h.elim ?_; clear h; intro u6 h
  refine h.elim ?_; clear h; intro u7 h
  refine h.elim ?_; clear h; intro u8 h
  refine h.elim ?_; clear h; intro u9 h
  refine h.elim ?_; clear h; intro u10 h
  refine h.elim ?_; clear h; intro u11 h
  refine h.elim ?_; clear h; intro u12 h
  refine h.elim ?_; clear h; intro u13 h
  refine h.elim ?_; clear h; intro u14 h
  refine h.elim ?_; clear h; intro u15 h
  have hbb := h.1; replace h := h.2; subst hbb
  have hHeld := h.1; replace h := h.2
  have f0 := h.1; replace h := h.2
  have f1 := h.1; replace h := h.2
  have f2 := h.1; replace h := h.2
  have f3 := h.1; replace h := h.2
  have f4 := h.1; replace h := h.2
  have f5 := h.1; replace h := h.2
  have f6 := h.1; replace h := h.2
  have f7 := h.1; replace h := h.2
  have f8 := h.1; replace h := h.2
  have f9 := h.1; replace h := h.2
  have f10 := h.1; replace h := h.2
  have f11 := h; clear h
  have g0 := f0 (hA 0 (by omega))
  clear f0
  obtain rfl := g0
  have g1 := f1 (hA 1 (by omega))
  clear f1
  obtain rfl := g1
  have g2 := f2 (hA 2 (by omega))
  clear f2
  obtain ⟨⟨a8, c8, rfl⟩, H8⟩ := g2
  have g3 := f3 (hA 3 (by omega))
  clear f3
  obtain rfl := g3
  have g4 := f4 (hA 4 (by omega))
  clear f4
  obtain rfl := g4
  have g5 := f5 (hA 5 (by omega))
  clear f5
  obtain ⟨⟨a11, c11, rfl⟩, H11⟩ := g5
  have g6 := f6 (hA 6 (by omega))
  clear f6
  obtain rfl := g6
  have g7 := f7 (hA 7 (by omega))
  clear f7
  obtain rfl := g7
  have g8 := f8 (hA 8 (by omega))
  clear f8
  obtain ⟨⟨a14, c14, rfl⟩, H14⟩ := g8
  have g9 := f9 (hA 9 (by omega))
  clear f9
  obtain ⟨rfl, _⟩ := g9
  clear f10
  have g11 := f11 (hA 11 (by omega))
  clear f11
  clear hA
  exact ⟨rfl, _, _, _, _, _, _, _, _, _, _, _, rfl, hHeld, g11⟩
end Go.Proofs.Ytogmbfhefblbjaa
