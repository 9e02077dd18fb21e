/- Layer 18: the walk of RefsMore. -/
import Derived.Test.YtjlpmepnapaonaaDoorRefsMoreA
import Derived.Test.YtjlpmepnapaonaaDoorAwakeRefs
namespace Go.Proofs.YtjlpmepnapaonaaDoor
open Go.RowKit
set_option linter.unusedSimpArgs false
set_option linter.unusedVariables false
theorem chunks_snoc {α : Type} {q : Nat} {R : Rep α} {w : World} {CH : List (Chunk q)} {L : List α} {z : Chunk q} {y : α} (hR : ∀ (i : Nat) (c : Chunk q) (x : α), CH[i]? = some c → L[i]? = some x → R w c.1 x) (hl : CH.length = L.length) (hz : R w z.1 y) : ∀ (i : Nat) (c : Chunk q) (x : α), (CH ++ [z])[i]? = some c → (L ++ [y])[i]? = some x → R w c.1 x := by
  intro i c x hc hx
  by_cases hi : i < CH.length
  · rw [List.getElem?_append_left hi] at hc
    rw [List.getElem?_append_left (by omega)] at hx
    exact hR i c x hc hx
  · have h1 := lt_of_get hc
    obtain rfl : i = CH.length := by simp at h1; omega
    have e1 : z = c := by simpa using hc
    have e2 : y = x := by rw [hl] at hx; simpa using hx
    rw [← e1, ← e2]; exact hz
def moreP (p : Pr) : Pr := ⟨p.consts ++ [(0, 0)], p.vars ++ [⟨[], 0, 0, 0, 0⟩], p.blocks ++ [⟨[], 0⟩], p.units ++ [⟨[], [], 0, [], []⟩]⟩
theorem more_wide {p : Pr} (h : fewP p = true) : wideP (moreP p) = true := by
  obtain ⟨⟨a, b, c, d⟩, _, _, e⟩ := fewP_is h
  refine decide_eq_true ⟨⟨?_, ?_, ?_, ?_⟩, trivial, trivial, ?_⟩
  · simp [moreP]; omega
  · simp [moreP]; omega
  · simp [moreP]; omega
  · simp [moreP]; omega
  · intro x hx
    simp only [moreP, List.mem_append, List.mem_singleton] at hx
    rcases hx with hx | rfl
    · exact e x hx
    · decide
theorem getD_more {α : Type} {L : List α} {x d : α} {k : Nat} (h : k < L.length) : (L ++ [x]).getD k d = L.getD k d := by
  simp [List.getD, List.getElem?_append_left h]
theorem oneP_more {p : Pr} {u o a b : Int} (h : oneP p u o a b = 0) : oneP (moreP p) u o a b = 0 := by
  have hu : 0 ≤ u ∧ u < p.units.length := by
    by_cases hu : 0 ≤ u ∧ u < p.units.length
    · exact hu
    · rw [oneP_u hu] at h; omega
  have hr : oRight o a b = true := by
    cases hr : oRight o a b
    · rw [oneP_r hu hr] at h; omega
    · rfl
  have ht : typedP o a b = true := by
    cases ht : typedP o a b
    · rw [oneP_t hu hr ht] at h; omega
    · rfl
  have hn : thereP p (unAt p u) o a b = true := by
    cases hn : thereP p (unAt p u) o a b
    · rw [oneP_n hu hr ht hn] at h; omega
    · rfl
  have ha := (oRight_pos hr).2.1
  have hu' : 0 ≤ u ∧ u < (moreP p).units.length := ⟨hu.1, by simp [moreP]; omega⟩
  have eu : unAt (moreP p) u = unAt p u := getD_more (by omega)
  refine oneP_ok hu' hr ht ?_
  rw [eu]
  unfold thereP at hn ⊢
  split
  · rename_i h1
    rw [if_pos h1] at hn
    have := of_decide_eq_true hn
    exact decide_eq_true (by simp [moreP]; omega)
  · rename_i h1
    rw [if_neg h1] at hn
    split
    · rename_i h2
      rw [if_pos h2] at hn
      unfold varP at hn ⊢
      have := of_decide_eq_true hn
      have en : nAt (moreP p) a = nAt p a := by unfold nAt; rw [show (moreP p).vars = p.vars ++ [⟨[], 0, 0, 0, 0⟩] from rfl, getD_more (by omega)]
      exact decide_eq_true ⟨by simp [moreP]; omega, by rw [en]; exact this.2⟩
    · rename_i h2
      rw [if_neg h2] at hn
      split
      · rename_i h3
        rw [if_pos h3] at hn
        exact hn
      · rename_i h3
        rw [if_neg h3] at hn
        split
        · rename_i h4
          rw [if_pos h4] at hn
          have := of_decide_eq_true hn
          exact decide_eq_true ⟨this.1, by simp [moreP]; omega⟩
        · rename_i h4
          rw [if_neg h4] at hn
          split
          · rename_i h5
            rw [if_pos h5] at hn
            have := of_decide_eq_true hn
            have en : kindAt (moreP p) a = kindAt p a := by unfold kindAt; rw [show (moreP p).blocks = p.blocks ++ [⟨[], 0⟩] from rfl, getD_more (by omega)]
            exact decide_eq_true ⟨by simp [moreP]; omega, by rw [en]; exact this.2⟩
          · rfl
theorem const_one {w : World} {cs : List Value} {x : Int × Int} (h : constR w cs x) : ∀ u ∈ cs, u.oneCell' = true := by
  obtain ⟨rfl, _⟩ := h; intro u hu; simp at hu; rcases hu with rfl | rfl <;> rfl
theorem var_one {w : World} {cs : List Value} {x : Vr} (h : varR w cs x) : ∀ u ∈ cs, u.oneCell' = true := by
  obtain ⟨rfl, _⟩ := h; intro u hu; simp at hu; rcases hu with rfl | rfl | rfl | rfl | rfl <;> rfl
theorem blk_one {w : World} {cs : List Value} {x : Bk} (h : blkR w cs x) : ∀ u ∈ cs, u.oneCell' = true := by
  obtain ⟨rfl, _⟩ := h; intro u hu; simp at hu; rcases hu with rfl | rfl <;> rfl
theorem unit_one {w : World} {cs : List Value} {x : Un} (h : unitR w cs x) : ∀ u ∈ cs, u.oneCell' = true := by
  obtain ⟨a, b, c, rfl, hu⟩ := h
  obtain ⟨_, _, ea⟩ := row_get hu.ps
  obtain ⟨_, _, eb⟩ := row_get hu.ls
  obtain ⟨_, _, ec⟩ := row_get hu.cs
  subst ea eb ec
  intro u hu; simp at hu; rcases hu with rfl | rfl | rfl | rfl | rfl <;> rfl
theorem row_more {α : Type} {q : Nat} {R : Rep α} (hS : Stable R) (hO : ∀ w cs x, R w cs x → ∀ u ∈ cs, u.oneCell' = true) {w : World} {v : Value} {L : List α} (h : RowR q R w v L) :
    ∃ X : List Value, X.length = L.length * q ∧ (∀ u ∈ X, u.oneCell' = true) ∧ (∀ W, Below w.heap.size w W → Src W v L.length X) ∧ ∀ W, Below w.heap.size w W → ∀ (B : Nat) (e : TypeId) (r : Value) (z : Chunk q) (y : α), R W z.1 y → W.ownsRow B e q r (L.length + 1) (X ++ z.1) → RowR q R W r (L ++ [y]) := by
  obtain ⟨CH, h1, h2, h3⟩ := row_chunks h
  refine ⟨flatC CH, by rw [flatC_len, h1], chunks_one (fun i c hc => ?_), fun W hW => h3.below hW, fun W hW B e r z y hz hO => ?_⟩
  · obtain ⟨x, hx⟩ := get_some (L := L) (n := i) (by rw [← h1]; exact lt_of_get hc)
    exact hO _ _ _ (h2 i c x hc hx)
  · refine row_of_chunks (CH := CH ++ [z]) (own_eq2 hO rfl (by rw [flatC_app, flatC_one])) (by simp [h1]) (by simp [h1]) (chunks_snoc (fun i c x hc hx => hS _ _ _ _ (h2 i c x hc hx) hW) h1 hz)
set_option maxHeartbeats 4000000 in
theorem refsMore_walk (pc pv pb pu : Value) (p : Pr) (u o a b : Int) (w : World) (h : PrAt w pc pv pb pu p) (hT : TabR w) :
    Calls Tryd.prog 4 #[.agg #[pc, pv, pb, pu], .int .i64 u, .agg #[.int .i64 o, .int .i64 a, .int .i64 b]] w fun e w' => e = .returned (.bool true) ∧ Below w.heap.size w w' := by
  have HF := Lib.hid (fun W (hb : Below w.heap.size w W) => law16_Few pc pv pb pu p W (h.below hb))
  have HA := Lib.hid (fun W (hb : Below w.heap.size w W) => law18_awake W (hT.below hb))
  obtain ⟨W0, hW0⟩ : ∃ W0, W0 = (w.alloc (.cells #[pc, pv, pb, pu] 27)).alloc (.cells #[.int .i64 o, .int .i64 a, .int .i64 b] 35) := ⟨_, rfl⟩
  obtain ⟨k1, k2, k3, k4⟩ := boxed2 w [pc, pv, pb, pu] [.int .i64 o, .int .i64 a, .int .i64 b] 27 35 (W' := W0) (by rw [hW0]; exact Below.refl _ _)
  have HW0 := Lib.hid hW0
  have K1 := Lib.hid k1
  have K2 := Lib.hid k2
  have z1 : w.heap.size < W0.heap.size := by omega
  have HP := Lib.hid h
  have HTT := Lib.hid hT
  clear hW0 k1 k2 h hT
  cases hf : fewP p
  · rw [hf] at HF
    clear hf
    go_enter Tryd.func4, Tryd.ntmps4
    go_wp2_with fail
    refine (HF.out _ (by rw [← HW0.out]; exact k4)).mono ?_; rintro e w1 ⟨rfl, hb1⟩
    rw [← HW0.out] at hb1
    have hB1 := k4.trans (hb1.mono k4.size)
    go_wp2_with fail
    refine (HA.out _ hB1).mono ?_; rintro e w2 ⟨rfl, hb2⟩
    have hB2 := hB1.trans (hb2.mono hB1.size)
    go_wp2_with fail
    go_ret
    exact ⟨rfl, hB2⟩
  · rw [hf] at HF
    have HO := Lib.hid (fun W (hb : Below w.heap.size w W) => refs_One pc pv pb pu p u o a b W (HP.out.below hb) (HTT.out.below hb) hf)
    have HM := Lib.hid (fun (ho : oneP p u o a b = 0) pc' pv' pb' pu' W (hb : Below w.heap.size w W) (hq : PrAt W pc' pv' pb' pu' (moreP p)) => refs_OneW pc' pv' pb' pu' (moreP p) u o a b W hq (HTT.out.below hb) (more_wide hf))
    have HM0 := Lib.hid (fun (ho : oneP p u o a b = 0) => oneP_more ho)
    have HB := Lib.hid (fewP_is hf).1
    clear hf
    generalize oneP p u o a b = z at *
    go_enter Tryd.func4, Tryd.ntmps4
    go_wp2_with fail
    refine (HF.out _ (by rw [← HW0.out]; exact k4)).mono ?_; rintro e w1 ⟨rfl, hb1⟩
    rw [← HW0.out] at hb1
    have hB1 := k4.trans (hb1.mono k4.size)
    have e0 := (K1.out.keep z1 hb1) 0 _ rfl
    have e1 := (K1.out.keep z1 hb1) 1 _ rfl
    have e2 := (K1.out.keep z1 hb1) 2 _ rfl
    have e3 := (K1.out.keep z1 hb1) 3 _ rfl
    have i0 := (K2.out.keep k3 hb1) 0 _ rfl
    have i1 := (K2.out.keep k3 hb1) 1 _ rfl
    have i2 := (K2.out.keep k3 hb1) 2 _ rfl
    go_wp2_with fail
    refine (HO.out _ hB1).mono ?_; rintro e w2 ⟨rfl, hb2⟩
    have hB2 := hB1.trans (hb2.mono hB1.size)
    have hb2 := hb1.trans (hb2.mono hb1.size)
    clear e0 e1 e2 e3 i0 i1 i2
    by_cases hz : z = 0
    case neg =>
      have q0 : (z != 0) = true := by simpa using hz
      clear hz
      go_wp2_with fail
      refine (HA.out _ hB2).mono ?_; rintro e w3 ⟨rfl, hb3⟩
      have hB3 := hB2.trans (hb3.mono hB2.size)
      go_wp2_with fail
      go_ret
      exact ⟨rfl, hB3⟩
    case pos =>
      have HMq := Lib.hid (HM.out hz)
      rw [HM0.out hz] at HMq
      subst hz
      clear HM0 HM
      go_wp2_with fail
      obtain ⟨X1, l1, o1, s1, m1⟩ := row_more constR_stable (fun _ _ _ => const_one) HP.out.cs
      obtain ⟨X2, l2, o2, s2, m2⟩ := row_more varR_stable (fun _ _ _ => var_one) HP.out.vs
      obtain ⟨X3, l3, o3, s3, m3⟩ := row_more blkR_stable (fun _ _ _ => blk_one) HP.out.bs
      obtain ⟨X4, l4, o4, s4, m4⟩ := row_more unitR_stable (fun _ _ _ => unit_one) HP.out.us
      obtain ⟨f1, f2, f3, f4⟩ := HB.out
      have hzz : w.heap.size < w2.heap.size := Nat.lt_of_lt_of_le z1 hb2.size
      have C := K1.out.keep z1 hb2
      obtain ⟨i1, hi1, hz1, hs1, hb1'⟩ : ∃ i, Tryd.prog.info? 38 = some i ∧ i.zero = some (.agg #[.int .i64 0, .int .i64 0]) ∧ i.size = 2 ∧ i.bytes = 16 := ⟨(Tryd.prog.info? 38).get!, by kernel_rfl, by kernel_rfl, by kernel_rfl, by kernel_rfl⟩
      obtain ⟨i2, hi2, hz2, hs2, hb2'⟩ : ∃ i, Tryd.prog.info? 40 = some i ∧ i.zero = some (.agg #[.string ⟨#[]⟩, .int .i64 0, .int .i64 0, .int .i64 0, .int .i64 0]) ∧ i.size = 5 ∧ i.bytes = 48 := ⟨(Tryd.prog.info? 40).get!, by kernel_rfl, by kernel_rfl, by kernel_rfl, by kernel_rfl⟩
      obtain ⟨i3, hi3, hz3, hs3, hb3'⟩ : ∃ i, Tryd.prog.info? 42 = some i ∧ i.zero = some (.agg #[.string ⟨#[]⟩, .int .i64 0]) ∧ i.size = 2 ∧ i.bytes = 24 := ⟨(Tryd.prog.info? 42).get!, by kernel_rfl, by kernel_rfl, by kernel_rfl, by kernel_rfl⟩
      obtain ⟨i4, hi4, hz4, hs4, hb4'⟩ : ∃ i, Tryd.prog.info? 46 = some i ∧ i.zero = some (.agg #[.string ⟨#[]⟩, .slice none 0 0, .int .i64 0, .slice none 0 0, .slice none 0 0]) ∧ i.size = 5 ∧ i.bytes = 96 := ⟨(Tryd.prog.info? 46).get!, by kernel_rfl, by kernel_rfl, by kernel_rfl, by kernel_rfl⟩
      refine Code.wp_mono ?_ (refsMore_r3 w2 w.heap.size pc pv pb pu _ _ _ _ X1 X2 X3 X4 hzz (C 0 _ rfl) (C 1 _ rfl) (C 2 _ rfl) (C 3 _ rfl) (Lib.hid (fun W hW => s1 W (hB2.trans (hW.mono hB2.size)))) l1 (Lib.hid o1) (by omega) (Lib.hid (fun W hW => s2 W (hB2.trans (hW.mono hB2.size)))) l2 (Lib.hid o2) (by omega) (Lib.hid (fun W hW => s3 W (hB2.trans (hW.mono hB2.size)))) l3 (Lib.hid o3) (by omega) (Lib.hid (fun W hW => s4 W (hB2.trans (hW.mono hB2.size)))) l4 (Lib.hid o4) (by omega) i1 hi1 hz1 hs1 hb1' i2 hi2 hz2 hs2 hb2' i3 hi3 hz3 hs3 hb3' i4 hi4 hz4 hs4 hb4' _ _ _ _ _ _ _ _ _ _ _ _ _ _ _ _ _ _ _ _ _ _ _ _ _ _ _ _ _ _ _ _ _ _ _ _ _ _ _ _ _ _ _ _ _ _ _ _ _ _ _ _ _ _ _)
      intro e bb v h
      have he := h.1; replace h := h.2; subst he
      refine Exists.elim h ?_; clear h; intro u7 h
      refine Exists.elim h ?_; clear h; intro u19 h
      refine Exists.elim h ?_; clear h; intro u20 h
      refine Exists.elim h ?_; clear h; intro u21 h
      refine Exists.elim h ?_; clear h; intro u22 h
      refine Exists.elim h ?_; clear h; intro u23 h
      refine Exists.elim h ?_; clear h; intro u24 h
      refine Exists.elim h ?_; clear h; intro u25 h
      refine Exists.elim h ?_; clear h; intro u26 h
      refine Exists.elim h ?_; clear h; intro u27 h
      refine Exists.elim h ?_; clear h; intro u28 h
      refine Exists.elim h ?_; clear h; intro u29 h
      refine Exists.elim h ?_; clear h; intro u30 h
      refine Exists.elim h ?_; clear h; intro u31 h
      refine Exists.elim h ?_; clear h; intro u32 h
      refine Exists.elim h ?_; clear h; intro u33 h
      refine Exists.elim h ?_; clear h; intro u34 h
      refine Exists.elim h ?_; clear h; intro u35 h
      refine Exists.elim h ?_; clear h; intro u36 h
      refine Exists.elim h ?_; clear h; intro u37 h
      refine Exists.elim h ?_; clear h; intro u38 h
      refine Exists.elim h ?_; clear h; intro u39 h
      refine Exists.elim h ?_; clear h; intro u40 h
      refine Exists.elim h ?_; clear h; intro u41 h
      refine Exists.elim h ?_; clear h; intro u42 h
      refine Exists.elim h ?_; clear h; intro u43 h
      refine Exists.elim h ?_; clear h; intro u44 h
      refine Exists.elim h ?_; clear h; intro u45 h
      refine Exists.elim h ?_; clear h; intro u46 h
      refine Exists.elim h ?_; clear h; intro u47 h
      have hbb := h.1; replace h := h.2; subst hbb
      have hH := h.1; replace h := h.2
      obtain ⟨g6, g13, g20, g27, q7, rfl, hq1, hq2⟩ := h
      have hBv := hB2.trans (hH.mono hB2.size)
      have hbv := hb2.trans (hH.mono hb2.size)
      have R1 := m1 v hBv _ _ _ ⟨[.int .i64 0, .int .i64 0], rfl⟩ (0, 0) ⟨rfl, by unfold I64; omega, by unfold I64; omega⟩ g6
      have R2 := m2 v hBv _ _ _ ⟨[.string ⟨#[]⟩, .int .i64 0, .int .i64 0, .int .i64 0, .int .i64 0], rfl⟩ ⟨[], 0, 0, 0, 0⟩ ⟨rfl, by unfold sz; simp, by unfold I64; simp, by unfold I64; simp, by unfold I64; simp, by unfold I64; simp⟩ g13
      have R3 := m3 v hBv _ _ _ ⟨[.string ⟨#[]⟩, .int .i64 0], rfl⟩ ⟨[], 0⟩ ⟨rfl, by unfold sz; simp, by unfold I64; simp⟩ g20
      have R4 := m4 v hBv _ _ _ ⟨[.string ⟨#[]⟩, .slice none 0 0, .int .i64 0, .slice none 0 0, .slice none 0 0], rfl⟩ ⟨[], [], 0, [], []⟩ ⟨_, _, _, rfl, ⟨row_none, row_none, row_none, by unfold sz; simp, by unfold I64; simp⟩⟩ g27
      have HQ := Lib.hid (show PrAt v u25 u32 u39 u46 (moreP p) from ⟨R1, R2, R3, R4⟩)
      have e0 := cell_of' hq2 0 (v := u25) rfl
      have e1 := cell_of' hq2 1 (v := u32) rfl
      have e2 := cell_of' hq2 2 (v := u39) rfl
      have e3 := cell_of' hq2 3 (v := u46) rfl
      have j0 := (K2.out.keep k3 hbv) 0 _ rfl
      have j1 := (K2.out.keep k3 hbv) 1 _ rfl
      have j2 := (K2.out.keep k3 hbv) 2 _ rfl
      clear R1 R2 R3 R4 m1 m2 m3 m4 g6 g13 g20 g27 hq2 C l1 l2 l3 l4 o1 o2 o3 o4 s1 s2 s3 s4 hi1 hi2 hi3 hi4 hz1 hz2 hz3 hz4 hs1 hs2 hs3 hs4 hb1' hb2' hb3' hb4' hbv hb2 hb1 hH f1 f2 f3 f4
      go_wp2_with fail
      refine (HMq.out _ _ _ _ _ hBv HQ.out).mono ?_; rintro e w4 ⟨rfl, hb4⟩
      have hB4 := hBv.trans (hb4.mono hBv.size)
      go_wp2_with fail
      refine (HA.out _ hB4).mono ?_; rintro e w5 ⟨rfl, hb5⟩
      have hB5 := hB4.trans (hb5.mono hB4.size)
      go_wp2_with fail
      go_ret
      exact ⟨rfl, hB5⟩
end Go.Proofs.YtjlpmepnapaonaaDoor
