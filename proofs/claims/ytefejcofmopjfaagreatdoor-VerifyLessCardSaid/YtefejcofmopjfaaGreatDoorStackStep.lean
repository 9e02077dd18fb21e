/- Layer 19: the stack behind an instruction. -/
import Derived.Test.YtefejcofmopjfaaGreatDoorStackEff
namespace Go.Proofs.YtefejcofmopjfaaGreatDoor
open Go.RowKit
set_option linter.unusedSimpArgs false
set_option linter.unusedVariables false
theorem row_drop {w : World} {a : Option Addr} {n cap : Nat} {L : List Int} (h : RowR 1 intR w (.slice a n cap) L) {k : Nat} (hk : k ≤ L.length) : RowR 1 intR w (sliced a k n cap 1) (L.drop k) := by
  rcases h with ⟨a', cap', h1, rfl, hc⟩ | ⟨b, off, cap', h1, h2, h3, h4, h5, h6⟩
  · injection h1 with e1 e2 e3
    subst e1 e2 e3
    obtain rfl : k = 0 := by simpa using hk
    refine Or.inl ⟨_, cap, rfl, rfl, fun hh => ?_⟩
    by_cases h0 : cap = 0
    · exact h0
    · rw [if_neg h0] at hh
      exact hc (by simpa using hh)
  · injection h1 with e1 e2 e3
    subst e1 e2 e3
    by_cases hkn : k = L.length
    · subst hkn
      refine Or.inl ⟨_, cap - L.length, by unfold sliced; rw [Nat.sub_self], by simp, fun hh => ?_⟩
      split at hh <;> simp at hh
    · have hck : ¬ cap = k := by omega
      refine Or.inr ⟨b, off + k, cap - k, by unfold sliced; rw [if_neg hck]; simp [add_at], by simp; omega, by simp; omega, by omega, h5, fun i x hx => ?_⟩
      rw [List.getElem?_drop] at hx
      obtain ⟨C, g1, g2, g3⟩ := h6 (k + i) x hx
      exact ⟨C, g1, fun j u hu => by rw [show off + k + i * 1 + j = off + (k + i) * 1 + j by omega]; exact g2 j u hu, g3⟩
theorem row_take {w : World} {a : Option Addr} {n cap : Nat} {L : List Int} (h : RowR 1 intR w (.slice a n cap) L) {k : Nat} (hk : k ≤ L.length) : RowR 1 intR w (sliced a 0 k cap 1) (L.take k) := by
  rcases h with ⟨a', cap', h1, rfl, hc⟩ | ⟨b, off, cap', h1, h2, h3, h4, h5, h6⟩
  · injection h1 with e1 e2 e3
    subst e1 e2 e3
    obtain rfl : k = 0 := by simpa using hk
    refine Or.inl ⟨_, cap, rfl, rfl, fun hh => ?_⟩
    by_cases h0 : cap = 0
    · exact h0
    · rw [if_neg h0] at hh
      exact hc (by simpa using hh)
  · injection h1 with e1 e2 e3
    subst e1 e2 e3
    have hc0 : ¬ cap = 0 := by omega
    by_cases hkn : k = 0
    · subst hkn
      refine Or.inl ⟨_, cap, rfl, by simp, fun hh => ?_⟩
      rw [if_neg hc0] at hh; simp at hh
    · refine Or.inr ⟨b, off, cap, by unfold sliced; rw [if_neg hc0]; simp [add_at]; omega, by simp; omega, by simp; omega, h4, h5, fun i x hx => ?_⟩
      have hi : i < k := by have := lt_of_get hx; simp at this; omega
      rw [List.getElem?_take, if_pos hi] at hx
      exact h6 i x hx
def fitsT (tk top : List Int) : Bool := (List.range tk.length).all fun k => (tk.getD k 0 == 0 || top.getD k 0 == 0 || tk.getD k 0 == top.getD k 0)
def lvS (o : Int) (lv top : List Int) : List Int := if o = 27 then [top.getD 0 0, top.getD 0 0] else if o = 29 then [top.getD 1 0, top.getD 0 0] else lv
def lowN (tk st : List Int) : Nat := st.length - tk.length
/-- what is wrong, and the stack behind an instruction that takes tk and leaves lv -/
def stpE (o : Int) (tk lv st : List Int) : Int :=
  if st.length < tk.length ∨ (o = 34 ∧ 0 < st.length) then 9 else if fitsT tk (st.drop (lowN tk st)) = false then 10 else if 32 < lowN tk st + (lvS o lv (st.drop (lowN tk st))).length then 9 else 0
def stpS (o : Int) (tk lv st : List Int) : List Int := if stpE o tk lv st = 0 then st.take (lowN tk st) ++ lvS o lv (st.drop (lowN tk st)) else []
def stepE (p : Pr) (u o a b : Int) (st : List Int) : Int := if oneP p u o a b = 0 then stpE o (takesL p (unAt p u) o a b) (leavesL p (unAt p u) o a b) st else oneP p u o a b
def stepS (p : Pr) (u o a b : Int) (st : List Int) : List Int := if oneP p u o a b = 0 then stpS o (takesL p (unAt p u) o a b) (leavesL p (unAt p u) o a b) st else []
theorem stp_9 {o : Int} {tk lv st : List Int} (h : st.length < tk.length ∨ (o = 34 ∧ 0 < st.length)) : stpE o tk lv st = 9 ∧ stpS o tk lv st = [] := by
  have : stpE o tk lv st = 9 := if_pos h
  exact ⟨this, by unfold stpS; rw [this]; rfl⟩
theorem stp_10 {o : Int} {tk lv st : List Int} (h : ¬ (st.length < tk.length ∨ (o = 34 ∧ 0 < st.length))) (h2 : fitsT tk (st.drop (lowN tk st)) = false) : stpE o tk lv st = 10 ∧ stpS o tk lv st = [] := by
  have : stpE o tk lv st = 10 := by unfold stpE; rw [if_neg h, if_pos h2]
  exact ⟨this, by unfold stpS; rw [this]; rfl⟩
theorem stp_32 {o : Int} {tk lv st : List Int} (h : ¬ (st.length < tk.length ∨ (o = 34 ∧ 0 < st.length))) (h2 : fitsT tk (st.drop (lowN tk st)) = true) (h3 : 32 < lowN tk st + (lvS o lv (st.drop (lowN tk st))).length) : stpE o tk lv st = 9 ∧ stpS o tk lv st = [] := by
  have : stpE o tk lv st = 9 := by unfold stpE; rw [if_neg h, if_neg (by rw [h2]; decide), if_pos h3]
  exact ⟨this, by unfold stpS; rw [this]; rfl⟩
theorem stp_0 {o : Int} {tk lv st : List Int} (h : ¬ (st.length < tk.length ∨ (o = 34 ∧ 0 < st.length))) (h2 : fitsT tk (st.drop (lowN tk st)) = true) (h3 : ¬ 32 < lowN tk st + (lvS o lv (st.drop (lowN tk st))).length) : stpE o tk lv st = 0 ∧ stpS o tk lv st = st.take (lowN tk st) ++ lvS o lv (st.drop (lowN tk st)) := by
  have : stpE o tk lv st = 0 := by unfold stpE; rw [if_neg h, if_neg (by rw [h2]; decide), if_neg h3]
  exact ⟨this, by unfold stpS; rw [if_pos this]⟩
theorem fitsT_no {tk top : List Int} {k : Nat} {t y : Int} (ht : tk[k]? = some t) (hy : top[k]? = some y) (h0 : t ≠ 0) (h1 : y ≠ 0) (h2 : t ≠ y) : fitsT tk top = false := by
  rw [Bool.eq_false_iff]; intro h
  unfold fitsT at h; rw [List.all_eq_true] at h
  have := h k (List.mem_range.2 (lt_of_get ht))
  simp [List.getD, ht, hy, h0, h1, h2] at this
theorem fitsT_yes {tk top : List Int} (h : ∀ k, k < tk.length → tk.getD k 0 = 0 ∨ top.getD k 0 = 0 ∨ tk.getD k 0 = top.getD k 0) : fitsT tk top = true := by
  unfold fitsT; rw [List.all_eq_true]; intro k hk
  rcases h k (List.mem_range.1 hk) with e | e | e
  · rw [show (tk.getD k 0 == 0) = true by rw [e]; rfl]; rfl
  · rw [show (top.getD k 0 == 0) = true by rw [e]; rfl, Bool.or_true]; rfl
  · rw [show (tk.getD k 0 == top.getD k 0) = true by rw [e]; simp, Bool.or_true]
theorem tk_small {p : Pr} {x : Un} {o a b : Int} (hf : wideP p = true) : (takesL p x o a b).length ≤ 300 ∧ (leavesL p x o a b).length ≤ 2 := by
  have hP : (unAt p a).params.length ≤ 20 := by
    unfold unAt
    rcases getD_or p.units a.toNat ⟨[], [], 0, [], []⟩ with hm | hm
    · exact (fewU_is ((wideP_is hf).2.2.2 _ hm)).2.1
    · rw [hm]; simp
  constructor
  · unfold takesL tkV tkT tkB
    repeat' split
    all_goals first | (simp; done) | (simp; omega) | omega
  · unfold leavesL lvV lvT lvB
    repeat' split
    all_goals first | (simp; done) | (simp; omega) | omega
set_option maxRecDepth 100000 in
set_option maxHeartbeats 8000000 in
theorem stack_Step (pc pv pb pu : Value) (p : Pr) (u o a b : Int) (v : Value) (st : List Int) (w : World) (h : PrAt w pc pv pb pu p) (hT : TabR w) (hB : BTab w) (hf : wideP p = true) (hia : I64 a) (hib : I64 b) (hst : RowR 1 intR w v st) (hsl : st.length ≤ 100) :
    Calls Tryz.prog 79 #[.agg #[pc, pv, pb, pu], .int .i64 u, .agg #[.int .i64 o, .int .i64 a, .int .i64 b], v] w fun e w' => ∃ r, e = .returned (.tuple #[r, .int .i64 (stepE p u o a b st)]) ∧ RowR 1 intR w' r (stepS p u o a b st) ∧ Below w.heap.size w w' := by
  have cp := @cell_past
  have HO := Lib.hid (fun W (hb : Below w.heap.size w W) => refs_OneW pc pv pb pu p u o a b W (h.below hb) (hT.below hb) hf)
  have HE := Lib.hid (fun (h1 : oneP p u o a b = 0) W (hb : Below w.heap.size w W) => stack_effect pc pv pb pu p u o a b W (h.below hb) (hT.below hb) (hB.below hb) hf h1 hia hib)
  obtain ⟨W0, hW0⟩ : ∃ W0, W0 = (w.alloc (.cells #[pc, pv, pb, pu] 27)).alloc (.cells #[.int .i64 o, .int .i64 a, .int .i64 b] 40) := ⟨_, rfl⟩
  obtain ⟨k1, k2, k3, k4⟩ := boxed2 w [pc, pv, pb, pu] [.int .i64 o, .int .i64 a, .int .i64 b] 27 40 (W' := W0) (by rw [hW0]; exact Below.refl _ _)
  have HW0 := Lib.hid hW0
  clear hW0
  have K1 := Lib.hid k1
  have K2 := Lib.hid k2
  have z1 : w.heap.size < W0.heap.size := by omega
  clear k1 k2 h hT hB
  obtain ⟨sa, ca, rfl⟩ := row_get hst
  have HST := Lib.hid hst
  clear hst
  by_cases h1 : oneP p u o a b = 0
  case neg =>
    have hs : Hid (stepE p u o a b st = oneP p u o a b ∧ stepS p u o a b st = []) := Lib.hid ⟨if_neg h1, if_neg h1⟩
    generalize oneP p u o a b = e1 at *
    have q : (e1 != 0) = true := by simpa using h1
    clear h1 HE
    generalize st.length = n at *
    go_enter Tryz.func79, Tryz.ntmps79
    go_wp2_with fail
    refine (HO.out _ (by (repeat' (first | (with_reducible exact Below.refl _ _) | (with_reducible assumption) | (with_reducible refine below_drewN ?_ _) | (with_reducible refine Below.alloc ?_ ?_ _) | (with_reducible refine Below.drew ?_) | (with_reducible refine Below.setCell ?_ ?_ _) | go_size)))).mono ?_; rintro e w1 ⟨rfl, hb1⟩
    rw [← HW0.out] at hb1
    go_wp2_with fail
    go_returns
    exact ⟨_, by rw [hs.out.1]; rfl, by rw [hs.out.2]; exact row_none, k4.trans (hb1.mono k4.size)⟩
  have HE := Lib.hid (HE.out h1)
  have hsE : stepE p u o a b st = stpE o (takesL p (unAt p u) o a b) (leavesL p (unAt p u) o a b) st := if_pos h1
  have hsS : stepS p u o a b st = stpS o (takesL p (unAt p u) o a b) (leavesL p (unAt p u) o a b) st := if_pos h1
  rw [hsE, hsS]
  rw [h1] at HO
  obtain ⟨b1, b2⟩ := tk_small (p := p) (x := unAt p u) (o := o) (a := a) (b := b) hf
  have H27 := Lib.hid (show o = 27 → (takesL p (unAt p u) o a b).length = 1 from fun hh => by subst hh; rfl)
  have H29 := Lib.hid (show o = 29 → (takesL p (unAt p u) o a b).length = 2 from fun hh => by subst hh; rfl)
  generalize takesL p (unAt p u) o a b = tk at *
  generalize leavesL p (unAt p u) o a b = lv at *
  clear hsE hsS h1 hia hib hf
  have hPut := Lib.hid (fun W (bl : Nat) (z y : Int) (hz : I64 z) (hy : I64 y) (hc : W.cell? ⟨bl, 0, none⟩ = some (.int .i64 z)) (hc1 : W.cell? ⟨bl, 1, none⟩ = some (.int .i64 y)) => stack_put (.slice none 0 0) (.slice (some ⟨bl, 0, none⟩) 2 2) [] [z, y] W row_none (row_cells2 hc hc1 hz hy) (by simp) (by simp))
  obtain ⟨n, hn⟩ : ∃ n, st.length = n := ⟨_, rfl⟩
  obtain ⟨m, hm⟩ : ∃ m, tk.length = m := ⟨_, rfl⟩
  have HN := Lib.hid (show st.length = n ∧ tk.length = m from ⟨hn, hm⟩)
  rw [hn] at hsl
  rw [hm] at b1
  by_cases hlow : n < m
  · have hs := Lib.hid (stp_9 (o := o) (tk := tk) (lv := lv) (st := st) (Or.inl (by omega)))
    rw [hn] at HST ⊢
    clear hn
    have r1 : ((n : Int) - (m : Int) < 0) = True := eq_true (by omega)
    have r2 : ((n : Int) < (m : Int)) = True := eq_true (by omega)
    go_enter Tryz.func79, Tryz.ntmps79
    go_wp2_with fail
    refine (HO.out _ (by (repeat' (first | (with_reducible exact Below.refl _ _) | (with_reducible assumption) | (with_reducible refine below_drewN ?_ _) | (with_reducible refine Below.alloc ?_ ?_ _) | (with_reducible refine Below.drew ?_) | (with_reducible refine Below.setCell ?_ ?_ _) | go_size)))).mono ?_; rintro e w1 ⟨rfl, hb1⟩
    rw [← HW0.out] at hb1
    have hb1w := k4.trans (hb1.mono k4.size)
    have e00 := (K1.out.keep z1 hb1) 0 _ rfl
    have e01 := (K1.out.keep z1 hb1) 1 _ rfl
    have e02 := (K1.out.keep z1 hb1) 2 _ rfl
    have e03 := (K1.out.keep z1 hb1) 3 _ rfl
    have e20 := (K2.out.keep k3 hb1) 0 _ rfl
    have e21 := (K2.out.keep k3 hb1) 1 _ rfl
    have e22 := (K2.out.keep k3 hb1) 2 _ rfl
    go_wp2_with fail
    refine (HE.out _ hb1w).mono ?_; rintro e w2 ⟨x1, x2, rfl, hx1, hx2, hb2⟩
    obtain ⟨xa, xc, rfl⟩ := row_get hx1
    obtain ⟨ya, yc, rfl⟩ := row_get hx2
    rw [hm]
    clear hm hx1 hx2
    generalize lv.length = q at *
    go_wp2_with fail
    go_returns
    exact ⟨_, by rw [hs.out.1]; rfl, by rw [hs.out.2]; exact row_none, hb1w.trans (hb2.mono hb1w.size)⟩
  have r1 : ((n : Int) - (m : Int) < 0) = False := eq_false (by omega)
  have r2 : ((n : Int) < (m : Int)) = False := eq_false (by omega)
  by_cases h34 : o = 34 ∧ 0 < n
  · obtain ⟨rfl, hn0⟩ := h34
    have hs := Lib.hid (stp_9 (o := 34) (tk := tk) (lv := lv) (st := st) (Or.inr ⟨rfl, by omega⟩))
    have r3 : (0 < (n : Int)) = True := eq_true (by omega)
    rw [hn] at HST ⊢
    clear hn
    go_enter Tryz.func79, Tryz.ntmps79
    go_wp2_with fail
    refine (HO.out _ (by (repeat' (first | (with_reducible exact Below.refl _ _) | (with_reducible assumption) | (with_reducible refine below_drewN ?_ _) | (with_reducible refine Below.alloc ?_ ?_ _) | (with_reducible refine Below.drew ?_) | (with_reducible refine Below.setCell ?_ ?_ _) | go_size)))).mono ?_; rintro e w1 ⟨rfl, hb1⟩
    rw [← HW0.out] at hb1
    have hb1w := k4.trans (hb1.mono k4.size)
    have e00 := (K1.out.keep z1 hb1) 0 _ rfl
    have e01 := (K1.out.keep z1 hb1) 1 _ rfl
    have e02 := (K1.out.keep z1 hb1) 2 _ rfl
    have e03 := (K1.out.keep z1 hb1) 3 _ rfl
    have e20 := (K2.out.keep k3 hb1) 0 _ rfl
    have e21 := (K2.out.keep k3 hb1) 1 _ rfl
    have e22 := (K2.out.keep k3 hb1) 2 _ rfl
    go_wp2_with fail
    refine (HE.out _ hb1w).mono ?_; rintro e w2 ⟨x1, x2, rfl, hx1, hx2, hb2⟩
    obtain ⟨xa, xc, rfl⟩ := row_get hx1
    obtain ⟨ya, yc, rfl⟩ := row_get hx2
    rw [hm]
    have E20 := (K2.out.keep k3 (hb1.trans (hb2.mono hb1.size))) 0 _ rfl
    clear hm hx1 hx2
    generalize lv.length = q at *
    go_wp2_with fail
    go_returns
    exact ⟨_, by rw [hs.out.1]; rfl, by rw [hs.out.2]; exact row_none, hb1w.trans (hb2.mono hb1w.size)⟩
  have HNot := Lib.hid (show ¬ (st.length < tk.length ∨ (o = 34 ∧ 0 < st.length)) by rw [hn, hm]; intro q; rcases q with q | q; exact hlow q; exact h34 q)
  have hlN : lowN tk st = n - m := by unfold lowN; rw [hn, hm]
  have hdr := row_drop (by rw [hn] at HST; exact HST.out) (k := n - m) (by omega)
  have htr := row_take (by rw [hn] at HST; exact HST.out) (k := n - m) (by omega)
  have hsd : ∀ W, (Instr.slice 35 (.slice sa n ca) (some (.int .i64 ((n : Int) - (m : Int)))) none none).run Tryz.prog W = .ok (sliced sa (n - m) n ca 1) W := fun W => by
    rw [run_slice_l W 35 sa n ca (by kernel_rfl) .i64 ((n : Int) - m) (by omega) (by omega)]
    rw [run_sizeOf W (show Tryz.prog.info? (Tryz.prog.elem 35) = some ((Tryz.prog.info? (Tryz.prog.elem 35)).get!) by kernel_rfl)]
    rw [show Tryz.prog.cellsOf (Tryz.prog.elem 35) = 1 by kernel_rfl, show ((n : Int) - (m : Int)).toNat = n - m by omega]
    rfl
  have hst : ∀ W, (Instr.slice 35 (.slice sa n ca) none (some (.int .i64 ((n : Int) - (m : Int)))) none).run Tryz.prog W = .ok (sliced sa 0 (n - m) ca 1) W := fun W => by
    have hcap : n ≤ ca := by
      rcases HST.out with ⟨a', c', e1, e2, _⟩ | ⟨b', o', c', e1, _, e3, _⟩
      · injection e1 with e1 e4 e5; omega
      · injection e1 with e1 e4 e5; omega
    rw [run_slice_h W 35 sa n ca (by kernel_rfl) .i64 ((n : Int) - m) (by omega) (by omega)]
    rw [run_sizeOf W (show Tryz.prog.info? (Tryz.prog.elem 35) = some ((Tryz.prog.info? (Tryz.prog.elem 35)).get!) by kernel_rfl)]
    rw [show Tryz.prog.cellsOf (Tryz.prog.elem 35) = 1 by kernel_rfl, show ((n : Int) - (m : Int)).toNat = n - m by omega]
    rfl
  generalize sliced sa (n - m) n ca 1 = sd at *
  generalize sliced sa 0 (n - m) ca 1 = stt at *
  obtain ⟨da, dc, rfl⟩ := row_get hdr
  obtain ⟨ta, tc, rfl⟩ := row_get htr
  have hdl : (st.drop (n - m)).length = m := by rw [List.length_drop, hn]; omega
  have htl : (st.take (n - m)).length = n - m := by rw [List.length_take, hn]; omega
  rw [hdl] at hdr hsd
  rw [htl] at htr hst
  rw [hn] at HST ⊢
  have HDr := Lib.hid hdr
  have HTr := Lib.hid htr
  have HLN := Lib.hid hlN
  generalize hDD : st.drop (n - m) = dd at *
  generalize hTT : st.take (n - m) = tt at *
  have HDT := Lib.hid (show st.drop (lowN tk st) = dd ∧ st.take (lowN tk st) = tt by rw [hlN]; exact ⟨hDD, hTT⟩)
  have HDL := Lib.hid (show dd.length = m ∧ tt.length = n - m from ⟨hdl, htl⟩)
  have H10 := Lib.hid (fun hh => stp_10 (lv := lv) HNot.out hh)
  have H32 := Lib.hid (fun hh hh2 => stp_32 (lv := lv) HNot.out hh hh2)
  have H0 := Lib.hid (fun hh hh2 => stp_0 (lv := lv) HNot.out hh hh2)
  rw [HDT.out.1] at H10 H32 H0
  rw [HDT.out.2] at H0
  rw [hlN] at H32 H0
  have hdI := row_ints hdr
  have HDI := Lib.hid hdI
  clear hlow hdr htr hlN hDD hTT hdl htl hn HNot hdI
  have q34 : ((o == 34) = false) ∨ n = 0 := by
    by_cases g : o = 34
    · right; by_cases g0 : n = 0; exact g0; exact absurd ⟨g, by omega⟩ h34
    · left; simpa using g
  clear h34
  have s1 : ((0 < (n : Int)) = True ∧ (0 < n) = True) ∧ (o == 34) = false ∨ (0 < (n : Int)) = False ∧ (0 < n) = False := by
    by_cases g0 : n = 0
    · right; exact ⟨eq_false (by omega), eq_false (by omega)⟩
    · left; exact ⟨⟨eq_true (by omega), eq_true (by omega)⟩, q34.resolve_right g0⟩
  have HS1 := Lib.hid s1
  clear q34 s1
  by_cases d27 : o = 27
  · subst d27
    have HMK := Lib.hid (show m = 1 by have := H27.out rfl; have := HN.out.2; omega)
    go_enter Tryz.func79, Tryz.ntmps79
    go_wp2_with fail
    refine (HO.out _ (by (repeat' (first | (with_reducible exact Below.refl _ _) | (with_reducible assumption) | (with_reducible refine below_drewN ?_ _) | (with_reducible refine Below.alloc ?_ ?_ _) | (with_reducible refine Below.drew ?_) | (with_reducible refine Below.setCell ?_ ?_ _) | go_size)))).mono ?_; rintro e w1 ⟨rfl, hb1⟩
    rw [← HW0.out] at hb1
    have hb1w := k4.trans (hb1.mono k4.size)
    have e00 := (K1.out.keep z1 hb1) 0 _ rfl
    have e01 := (K1.out.keep z1 hb1) 1 _ rfl
    have e02 := (K1.out.keep z1 hb1) 2 _ rfl
    have e03 := (K1.out.keep z1 hb1) 3 _ rfl
    have e20 := (K2.out.keep k3 hb1) 0 _ rfl
    have e21 := (K2.out.keep k3 hb1) 1 _ rfl
    have e22 := (K2.out.keep k3 hb1) 2 _ rfl
    go_wp2_with fail
    refine (HE.out _ hb1w).mono ?_; rintro e w2 ⟨x1, x2, rfl, hx1, hx2, hb2⟩
    have hb2 := hb1.trans (hb2.mono hb1.size)
    have hB2 := k4.trans (hb2.mono k4.size)
    clear e00 e01 e02 e03 e20 e21 e22
    have E20 := (K2.out.keep k3 hb2) 0 _ rfl
    obtain ⟨xa, xc, rfl⟩ := row_get hx1
    obtain ⟨ya, yc, rfl⟩ := row_get hx2
    have HX1 := Lib.hid hx1
    have HX2 := Lib.hid hx2
    rw [hm] at HX1 ⊢
    have z2 : w.heap.size + 1 < w2.heap.size := Nat.lt_of_lt_of_le k3 hb2.size
    clear hx1 hx2 hb1 hb1w
    go_wp2_with fail
    go_loopw [53] (fun jj wr => ∃ k d : Nat, k ≤ m ∧ jj = .int .i64 k ∧ Hid (∀ j, j < k → tk.getD j 0 = 0 ∨ dd.getD j 0 = 0 ∨ tk.getD j 0 = dd.getD j 0) ∧ wr = w2.drewN d) (fun jj _ => m - (intOf jj).toNat)
    case atStart => exact ⟨0, 0, by omega, rfl, Lib.hid (fun j hj => by omega), rfl⟩
    case round =>
      obtain ⟨k, d, hk, rfl, hall, rfl⟩ := hrel
      by_cases hlt : k < m
      · obtain ⟨t, ht⟩ := get_some (L := tk) (n := k) (by have := HN.out.2; omega)
        obtain ⟨y, hy⟩ := get_some (L := dd) (n := k) (by have := HDL.out.1; omega)
        obtain ⟨bx, ox, rfl, hbx, hcx⟩ := ints_at HX1.out (lt_of_get ht)
        obtain ⟨g0, _⟩ := hcx k t ht
        obtain ⟨by', oy, rfl, hby, hcy⟩ := ints_at HDr.out (lt_of_get hy)
        obtain ⟨g1', _⟩ := hcy k y hy
        have g1 := (hB2.cell (p := ⟨by', oy + k, none⟩) hby).trans g1'
        have hk1 : ∀ (hh : t = 0 ∨ y = 0 ∨ t = y), ∀ j, j < k + 1 → tk.getD j 0 = 0 ∨ dd.getD j 0 = 0 ∨ tk.getD j 0 = dd.getD j 0 := by
          intro hh j hj
          by_cases hjk : j = k
          · subst hjk; simpa [List.getD, ht, hy] using hh
          · exact hall.out j (by omega)
        have HK1 := Lib.hid hk1
        have HNo := Lib.hid (fun a1 a2 a3 => H10.out (fitsT_no ht hy a1 a2 a3))
        clear hk1 hcx hcy ht hy g1'
        by_cases c1 : t = 0
        · have f1 : (t != 0) = false := by simp [c1]
          have hs := Lib.hid (HK1.out (Or.inl c1))
          clear c1
          go_wp2_with fail
          go_roundw
          case rel => exact ⟨k + 1, _, by omega, by simp, hs, rfl⟩
          case measure => first | (simp [intOf]; done) | (simp [intOf]; omega)
        · have f1 : (t != 0) = true := by simpa using c1
          by_cases c2 : y = 0
          · have f2 : (y != 0) = false := by simp [c2]
            have hs := Lib.hid (HK1.out (Or.inr (Or.inl c2)))
            clear c1 c2
            go_wp2_with fail
            go_roundw
            case rel => exact ⟨k + 1, _, by omega, by simp, hs, rfl⟩
            case measure => first | (simp [intOf]; done) | (simp [intOf]; omega)
          · have f2 : (y != 0) = true := by simpa using c2
            by_cases c3 : t = y
            · have f3 : (t != y) = false := by simp [c3]
              have hs := Lib.hid (HK1.out (Or.inr (Or.inr c3)))
              clear c1 c2 c3
              go_wp2_with fail
              go_roundw
              case rel => exact ⟨k + 1, _, by omega, by simp, hs, rfl⟩
              case measure => first | (simp [intOf]; done) | (simp [intOf]; omega)
            · have f3 : (t != y) = true := by simpa using c3
              have hs := Lib.hid (HNo.out c1 c2 c3)
              clear c1 c2 c3
              go_wp2_with fail
              go_returns
              exact ⟨_, by rw [hs.out.1]; rfl, by rw [hs.out.2]; exact row_none, below_drewN hB2 _⟩
      · obtain rfl : k = m := by omega
        have HF := Lib.hid (fitsT_yes (tk := tk) (top := dd) (fun j hj => hall.out j (by have := HN.out.2; omega)))
        clear hall
        obtain ⟨y0, hy0⟩ := get_some (L := dd) (n := 0) (by have := HDL.out.1; have := HMK.out; omega)
        obtain ⟨by', oy, rfl, hby, hcy⟩ := ints_at HDr.out (lt_of_get hy0)
        obtain ⟨D0', _⟩ := hcy 0 y0 hy0
        have D0 := (hB2.cell (p := ⟨by', oy + 0, none⟩) hby).trans D0'
        have HI0 := Lib.hid (HDI.out y0 (List.mem_of_getElem? hy0))
        have kp0 : 0 < k := by have := HMK.out; omega
        have kp1 : ((0 : Int) < (k : Int)) = True := eq_true (by omega)
        have kp2 : (0 < k) = True := eq_true kp0
        simp only [Nat.add_zero] at D0
        have hlv : lvS 27 lv dd = [y0, y0] := by unfold lvS; simp [List.getD, hy0]
        have H32' := Lib.hid (H32.out HF.out)
        have H0' := Lib.hid (H0.out HF.out)
        rw [hlv] at H32' H0'
        have zd : by' < w2.heap.size := Nat.lt_of_lt_of_le hby hB2.size
        clear hlv hcy hy0 D0' H32 H0 H10
        generalize lv.length = q at *
        obtain ⟨W2, hW2⟩ : ∃ W2, W2 = w2.drewN d := ⟨_, rfl⟩
        have hBW2 : Below w.heap.size w W2 := by rw [hW2]; exact below_drewN hB2 _
        have hB2W : Below w2.heap.size w2 W2 := by rw [hW2]; exact Below_drewN _ _ _
        have D0 := (hB2W.cell (p := ⟨by', oy, none⟩) zd).trans D0
        have E20 := (hB2W.cell (p := ⟨w.heap.size + 1, 0, none⟩) z2).trans E20
        have zd := Nat.lt_of_lt_of_le zd hB2W.size
        rw [← hW2]
        have HW2 := Lib.hid hW2
        clear hW2
        go_wp2_with fail
        refine wp_region_held_drew (S := (fun w' => Below W2.heap.size W2 w')) (by kernel_rfl) ?_ (fun hHeld => ?_)
        · (try dsimp only); first | assumption | exact Below.alloc hHeld hHeld.size _ | exact (Below.refl _ _).drew | exact Below.drew (Below.refl _ _) | exact Below_drewN _ _ _ | exact Below.refl _ _ | (trace_state; fail)
        refine wpAnyH_take (i := 0) (oi := { dst := some 80, op := Op.move (Operand.tmp 14), type := 35, pos := _, after := #[], guard := none }) (v := ?_) rfl (by kernel_rfl) (by kernel_rfl) (by kernel_rfl) (fun _ _ _ h => h) (Or.inl ⟨by rfl, ?_⟩) (by assumption) ?_
        rotate_left
        · intro wt hSw; (try dsimp only at hSw); have D0 := cellB hSw D0 zd; first | (go_simp; done) | (go_simp; with_reducible rfl) | (trace_state; fail)
        try simp only [Act.put, List.setIfInBounds_toArray, List.set_cons_zero, List.set_cons_succ]
        refine wpAnyH_take (i := 1) (oi := { dst := some 81, op := Op.indexAddr 35 (Operand.tmp 80) (Operand.const (Value.int IntKind.i64 0)), type := 0, pos := _, after := #[{ on := 0, ground := Ground.data }], guard := none }) (v := ?_) rfl (by kernel_rfl) (by kernel_rfl) (by kernel_rfl) (fun _ _ _ h => h) (Or.inl ⟨by rfl, ?_⟩) (by assumption) ?_
        rotate_left
        · intro wt hSw; (try dsimp only at hSw); have D0 := cellB hSw D0 zd; first | (go_simp; done) | (go_simp; with_reducible rfl) | (trace_state; fail)
        try simp only [Act.put, List.setIfInBounds_toArray, List.set_cons_zero, List.set_cons_succ]
        refine wpAnyH_take (i := 2) (oi := { dst := some 82, op := Op.load 3 (Operand.tmp 81), type := 3, pos := _, after := #[{ on := 1, ground := Ground.data }], guard := none }) (v := ?_) rfl (by kernel_rfl) (by kernel_rfl) (by kernel_rfl) (fun _ _ _ h => h) (Or.inl ⟨by rfl, ?_⟩) (by assumption) ?_
        rotate_left
        · intro wt hSw; (try dsimp only at hSw); have D0 := cellB hSw D0 zd; first | (go_simp; done) | (go_simp; with_reducible rfl) | (trace_state; fail)
        try simp only [Act.put, List.setIfInBounds_toArray, List.set_cons_zero, List.set_cons_succ]
        refine wpAnyH_take (i := 3) (oi := { dst := some 83, op := Op.move (Operand.tmp 14), type := 35, pos := _, after := #[], guard := none }) (v := ?_) rfl (by kernel_rfl) (by kernel_rfl) (by kernel_rfl) (fun _ _ _ h => h) (Or.inl ⟨by rfl, ?_⟩) (by assumption) ?_
        rotate_left
        · intro wt hSw; (try dsimp only at hSw); have D0 := cellB hSw D0 zd; first | (go_simp; done) | (go_simp; with_reducible rfl) | (trace_state; fail)
        try simp only [Act.put, List.setIfInBounds_toArray, List.set_cons_zero, List.set_cons_succ]
        refine wpAnyH_take (i := 4) (oi := { dst := some 84, op := Op.indexAddr 35 (Operand.tmp 83) (Operand.const (Value.int IntKind.i64 0)), type := 0, pos := _, after := #[{ on := 3, ground := Ground.data }], guard := none }) (v := ?_) rfl (by kernel_rfl) (by kernel_rfl) (by kernel_rfl) (fun _ _ _ h => h) (Or.inl ⟨by rfl, ?_⟩) (by assumption) ?_
        rotate_left
        · intro wt hSw; (try dsimp only at hSw); have D0 := cellB hSw D0 zd; first | (go_simp; done) | (go_simp; with_reducible rfl) | (trace_state; fail)
        try simp only [Act.put, List.setIfInBounds_toArray, List.set_cons_zero, List.set_cons_succ]
        refine wpAnyH_take (i := 5) (oi := { dst := some 85, op := Op.load 3 (Operand.tmp 84), type := 3, pos := _, after := #[{ on := 4, ground := Ground.data }], guard := none }) (v := ?_) rfl (by kernel_rfl) (by kernel_rfl) (by kernel_rfl) (fun _ _ _ h => h) (Or.inl ⟨by rfl, ?_⟩) (by assumption) ?_
        rotate_left
        · intro wt hSw; (try dsimp only at hSw); have D0 := cellB hSw D0 zd; first | (go_simp; done) | (go_simp; with_reducible rfl) | (trace_state; fail)
        try simp only [Act.put, List.setIfInBounds_toArray, List.set_cons_zero, List.set_cons_succ]
        refine wpAnyH_ready (rs := [6]) (by kernel_rfl) (by simp) ?_
        refine AllReadyH.cons (o := { dst := some 86, op := Op.buildSlice 35 2 #[(0, Operand.tmp 82), (1, Operand.tmp 85)], type := 35, pos := _, after := #[{ on := 2, ground := Ground.data }, { on := 5, ground := Ground.data }], guard := none }) rfl (fun K hK => ?_) AllReadyH.nil
        go_simp
        refine hK.out _ _ ?_ (fun hHeld => ?_)
        · (try dsimp only); first | assumption | exact Below.alloc hHeld hHeld.size _ | exact (Below.refl _ _).drew | exact Below.drew (Below.refl _ _) | exact Below_drewN _ _ _ | exact Below.refl _ _ | (trace_state; fail)
        clear hK K
        try simp only [Act.put, List.setIfInBounds_toArray, List.set_cons_zero, List.set_cons_succ]
        refine wpAnyH_ready (rs := [7]) (by kernel_rfl) (by simp) ?_
        refine AllReadyH.cons (o := { dst := some 87, op := Op.call { callee := Callee.value (Operand.func 105), args := #[Operand.const (Value.slice none 0 0), Operand.tmp 86], argTypes := #[35, 35] }, type := 35, pos := _, after := #[{ on := 6, ground := Ground.data }], guard := none }) rfl (fun K hK => ?_) AllReadyH.nil
        go_simp
        refine (hPut.out _ _ y0 y0 HI0.out HI0.out (by first | (go_cell; done) | (simp [go_sem]; done)) (by first | (go_cell; done) | (simp [go_sem]; done))).mono ?_; rintro e w3 ⟨r3, rfl, hr3, hb3⟩; obtain ⟨ra3, rc3, rfl⟩ := row_get hr3; have Hr3 := Lib.hid hr3; have hHeld := hHeld.trans (hb3.mono hHeld.size); clear hb3 hr3
        go_wp2_with fail
        refine hK.out _ _ ?_ (fun hHeld => ?_)
        · (try dsimp only); first | assumption | exact Below.alloc hHeld hHeld.size _ | exact (Below.refl _ _).drew | exact Below.drew (Below.refl _ _) | exact Below_drewN _ _ _ | exact Below.refl _ _ | (trace_state; fail)
        clear hK K
        try simp only [Act.put, List.setIfInBounds_toArray, List.set_cons_zero, List.set_cons_succ]
        refine wpAnyH_take (i := 8) (oi := { dst := some 12, op := Op.assign (Operand.tmp 87), type := 35, pos := _, after := #[{ on := 7, ground := Ground.data }, { on := 7, ground := Ground.chain }, { on := 0, ground := Ground.phase }, { on := 1, ground := Ground.phase }, { on := 2, ground := Ground.phase }, { on := 3, ground := Ground.phase }, { on := 4, ground := Ground.phase }, { on := 5, ground := Ground.phase }, { on := 6, ground := Ground.phase }, { on := 7, ground := Ground.phase }], guard := none }) (v := ?_) rfl (by kernel_rfl) (by kernel_rfl) (by kernel_rfl) (fun _ _ _ h => h) (Or.inl ⟨by rfl, ?_⟩) (by assumption) ?_
        rotate_left
        · intro wt hSw; (try dsimp only at hSw); have D0 := cellB hSw D0 zd; first | (go_simp; done) | (go_simp; with_reducible rfl) | (trace_state; fail)
        try simp only [Act.put, List.setIfInBounds_toArray, List.set_cons_zero, List.set_cons_succ]
        refine wpAnyH_done (by kernel_rfl) ?_ _
        have hB3 := hBW2.trans (hHeld.mono hBW2.size)
        by_cases c32 : 32 < n - k + 2
        · have f32 : (32 < (n : Int) - (k : Int) + 2) = True := eq_true (by omega)
          have hs := Lib.hid (H32'.out (by simpa using c32))
          clear c32
          go_wp2_with fail
          go_returns
          exact ⟨_, by rw [hs.out.1]; rfl, by rw [hs.out.2]; exact row_none, hB3⟩
        · have f32 : (32 < (n : Int) - (k : Int) + 2) = False := eq_false (by omega)
          have hs := Lib.hid (H0'.out (by simpa using c32))
          clear c32
          go_wp2_with fail
          refine (stack_put _ _ tt [y0, y0] _ (HTr.out.below intR_stable hB3) Hr3.out (by have := HDL.out.2; omega) (by simp)).mono ?_; rintro e w4 ⟨r, rfl, hr, hb4⟩
          have Hr := Lib.hid hr
          have hB4 := hB3.trans (hb4.mono hB3.size)
          clear hr hb4
          go_wp2_with fail
          go_returns
          exact ⟨_, by rw [hs.out.1]; rfl, by rw [hs.out.2]; exact Hr.out, hB4⟩
  by_cases d29 : o = 29
  · subst d29
    have HMK := Lib.hid (show m = 2 by have := H29.out rfl; have := HN.out.2; omega)
    go_enter Tryz.func79, Tryz.ntmps79
    go_wp2_with fail
    refine (HO.out _ (by (repeat' (first | (with_reducible exact Below.refl _ _) | (with_reducible assumption) | (with_reducible refine below_drewN ?_ _) | (with_reducible refine Below.alloc ?_ ?_ _) | (with_reducible refine Below.drew ?_) | (with_reducible refine Below.setCell ?_ ?_ _) | go_size)))).mono ?_; rintro e w1 ⟨rfl, hb1⟩
    rw [← HW0.out] at hb1
    have hb1w := k4.trans (hb1.mono k4.size)
    have e00 := (K1.out.keep z1 hb1) 0 _ rfl
    have e01 := (K1.out.keep z1 hb1) 1 _ rfl
    have e02 := (K1.out.keep z1 hb1) 2 _ rfl
    have e03 := (K1.out.keep z1 hb1) 3 _ rfl
    have e20 := (K2.out.keep k3 hb1) 0 _ rfl
    have e21 := (K2.out.keep k3 hb1) 1 _ rfl
    have e22 := (K2.out.keep k3 hb1) 2 _ rfl
    go_wp2_with fail
    refine (HE.out _ hb1w).mono ?_; rintro e w2 ⟨x1, x2, rfl, hx1, hx2, hb2⟩
    have hb2 := hb1.trans (hb2.mono hb1.size)
    have hB2 := k4.trans (hb2.mono k4.size)
    clear e00 e01 e02 e03 e20 e21 e22
    have E20 := (K2.out.keep k3 hb2) 0 _ rfl
    obtain ⟨xa, xc, rfl⟩ := row_get hx1
    obtain ⟨ya, yc, rfl⟩ := row_get hx2
    have HX1 := Lib.hid hx1
    have HX2 := Lib.hid hx2
    rw [hm] at HX1 ⊢
    have z2 : w.heap.size + 1 < w2.heap.size := Nat.lt_of_lt_of_le k3 hb2.size
    clear hx1 hx2 hb1 hb1w
    go_wp2_with fail
    go_loopw [53] (fun jj wr => ∃ k d : Nat, k ≤ m ∧ jj = .int .i64 k ∧ Hid (∀ j, j < k → tk.getD j 0 = 0 ∨ dd.getD j 0 = 0 ∨ tk.getD j 0 = dd.getD j 0) ∧ wr = w2.drewN d) (fun jj _ => m - (intOf jj).toNat)
    case atStart => exact ⟨0, 0, by omega, rfl, Lib.hid (fun j hj => by omega), rfl⟩
    case round =>
      obtain ⟨k, d, hk, rfl, hall, rfl⟩ := hrel
      by_cases hlt : k < m
      · obtain ⟨t, ht⟩ := get_some (L := tk) (n := k) (by have := HN.out.2; omega)
        obtain ⟨y, hy⟩ := get_some (L := dd) (n := k) (by have := HDL.out.1; omega)
        obtain ⟨bx, ox, rfl, hbx, hcx⟩ := ints_at HX1.out (lt_of_get ht)
        obtain ⟨g0, _⟩ := hcx k t ht
        obtain ⟨by', oy, rfl, hby, hcy⟩ := ints_at HDr.out (lt_of_get hy)
        obtain ⟨g1', _⟩ := hcy k y hy
        have g1 := (hB2.cell (p := ⟨by', oy + k, none⟩) hby).trans g1'
        have hk1 : ∀ (hh : t = 0 ∨ y = 0 ∨ t = y), ∀ j, j < k + 1 → tk.getD j 0 = 0 ∨ dd.getD j 0 = 0 ∨ tk.getD j 0 = dd.getD j 0 := by
          intro hh j hj
          by_cases hjk : j = k
          · subst hjk; simpa [List.getD, ht, hy] using hh
          · exact hall.out j (by omega)
        have HK1 := Lib.hid hk1
        have HNo := Lib.hid (fun a1 a2 a3 => H10.out (fitsT_no ht hy a1 a2 a3))
        clear hk1 hcx hcy ht hy g1'
        by_cases c1 : t = 0
        · have f1 : (t != 0) = false := by simp [c1]
          have hs := Lib.hid (HK1.out (Or.inl c1))
          clear c1
          go_wp2_with fail
          go_roundw
          case rel => exact ⟨k + 1, _, by omega, by simp, hs, rfl⟩
          case measure => first | (simp [intOf]; done) | (simp [intOf]; omega)
        · have f1 : (t != 0) = true := by simpa using c1
          by_cases c2 : y = 0
          · have f2 : (y != 0) = false := by simp [c2]
            have hs := Lib.hid (HK1.out (Or.inr (Or.inl c2)))
            clear c1 c2
            go_wp2_with fail
            go_roundw
            case rel => exact ⟨k + 1, _, by omega, by simp, hs, rfl⟩
            case measure => first | (simp [intOf]; done) | (simp [intOf]; omega)
          · have f2 : (y != 0) = true := by simpa using c2
            by_cases c3 : t = y
            · have f3 : (t != y) = false := by simp [c3]
              have hs := Lib.hid (HK1.out (Or.inr (Or.inr c3)))
              clear c1 c2 c3
              go_wp2_with fail
              go_roundw
              case rel => exact ⟨k + 1, _, by omega, by simp, hs, rfl⟩
              case measure => first | (simp [intOf]; done) | (simp [intOf]; omega)
            · have f3 : (t != y) = true := by simpa using c3
              have hs := Lib.hid (HNo.out c1 c2 c3)
              clear c1 c2 c3
              go_wp2_with fail
              go_returns
              exact ⟨_, by rw [hs.out.1]; rfl, by rw [hs.out.2]; exact row_none, below_drewN hB2 _⟩
      · obtain rfl : k = m := by omega
        have HF := Lib.hid (fitsT_yes (tk := tk) (top := dd) (fun j hj => hall.out j (by have := HN.out.2; omega)))
        clear hall
        obtain ⟨y0, hy0⟩ := get_some (L := dd) (n := 0) (by have := HDL.out.1; have := HMK.out; omega)
        obtain ⟨y1, hy1⟩ := get_some (L := dd) (n := 1) (by have := HDL.out.1; have := HMK.out; omega)
        obtain ⟨by', oy, rfl, hby, hcy⟩ := ints_at HDr.out (lt_of_get hy0)
        obtain ⟨D0', _⟩ := hcy 0 y0 hy0
        have D0 := (hB2.cell (p := ⟨by', oy + 0, none⟩) hby).trans D0'
        have HI0 := Lib.hid (HDI.out y0 (List.mem_of_getElem? hy0))
        obtain ⟨D1', _⟩ := hcy 1 y1 hy1
        have D1 := (hB2.cell (p := ⟨by', oy + 1, none⟩) hby).trans D1'
        have HI1 := Lib.hid (HDI.out y1 (List.mem_of_getElem? hy1))
        have kp0 : 0 < k := by have := HMK.out; omega
        have kp1 : ((0 : Int) < (k : Int)) = True := eq_true (by omega)
        have kp2 : (0 < k) = True := eq_true kp0
        have kp3 : ((1 : Int) < (k : Int)) = True := eq_true (by have := HMK.out; omega)
        have kp4 : (1 < k) = True := eq_true (by have := HMK.out; omega)
        simp only [Nat.add_zero] at D0
        have hlv : lvS 29 lv dd = [y1, y0] := by unfold lvS; simp [List.getD, hy0, hy1]
        have H32' := Lib.hid (H32.out HF.out)
        have H0' := Lib.hid (H0.out HF.out)
        rw [hlv] at H32' H0'
        have zd : by' < w2.heap.size := Nat.lt_of_lt_of_le hby hB2.size
        clear hlv hcy hy0 D0' H32 H0 H10
        generalize lv.length = q at *
        obtain ⟨W2, hW2⟩ : ∃ W2, W2 = w2.drewN d := ⟨_, rfl⟩
        have hBW2 : Below w.heap.size w W2 := by rw [hW2]; exact below_drewN hB2 _
        have hB2W : Below w2.heap.size w2 W2 := by rw [hW2]; exact Below_drewN _ _ _
        have D0 := (hB2W.cell (p := ⟨by', oy, none⟩) zd).trans D0
        have D1 := (hB2W.cell (p := ⟨by', oy + 1, none⟩) zd).trans D1
        have E20 := (hB2W.cell (p := ⟨w.heap.size + 1, 0, none⟩) z2).trans E20
        have zd := Nat.lt_of_lt_of_le zd hB2W.size
        rw [← hW2]
        have HW2 := Lib.hid hW2
        clear hW2
        go_wp2_with fail
        refine wp_region_held_drew (S := (fun w' => Below W2.heap.size W2 w')) (by kernel_rfl) ?_ (fun hHeld => ?_)
        · (try dsimp only); first | assumption | exact Below.alloc hHeld hHeld.size _ | exact (Below.refl _ _).drew | exact Below.drew (Below.refl _ _) | exact Below_drewN _ _ _ | exact Below.refl _ _ | (trace_state; fail)
        refine wpAnyH_take (i := 0) (oi := { dst := some 90, op := Op.move (Operand.tmp 14), type := 35, pos := _, after := #[], guard := none }) (v := ?_) rfl (by kernel_rfl) (by kernel_rfl) (by kernel_rfl) (fun _ _ _ h => h) (Or.inl ⟨by rfl, ?_⟩) (by assumption) ?_
        rotate_left
        · intro wt hSw; (try dsimp only at hSw); have D0 := cellB hSw D0 zd; have D1 := cellB hSw D1 zd; first | (go_simp; done) | (go_simp; with_reducible rfl) | (trace_state; fail)
        try simp only [Act.put, List.setIfInBounds_toArray, List.set_cons_zero, List.set_cons_succ]
        refine wpAnyH_take (i := 1) (oi := { dst := some 91, op := Op.indexAddr 35 (Operand.tmp 90) (Operand.const (Value.int IntKind.i64 1)), type := 0, pos := _, after := #[{ on := 0, ground := Ground.data }], guard := none }) (v := ?_) rfl (by kernel_rfl) (by kernel_rfl) (by kernel_rfl) (fun _ _ _ h => h) (Or.inl ⟨by rfl, ?_⟩) (by assumption) ?_
        rotate_left
        · intro wt hSw; (try dsimp only at hSw); have D0 := cellB hSw D0 zd; have D1 := cellB hSw D1 zd; first | (go_simp; done) | (go_simp; with_reducible rfl) | (trace_state; fail)
        try simp only [Act.put, List.setIfInBounds_toArray, List.set_cons_zero, List.set_cons_succ]
        refine wpAnyH_take (i := 2) (oi := { dst := some 92, op := Op.load 3 (Operand.tmp 91), type := 3, pos := _, after := #[{ on := 1, ground := Ground.data }], guard := none }) (v := ?_) rfl (by kernel_rfl) (by kernel_rfl) (by kernel_rfl) (fun _ _ _ h => h) (Or.inl ⟨by rfl, ?_⟩) (by assumption) ?_
        rotate_left
        · intro wt hSw; (try dsimp only at hSw); have D0 := cellB hSw D0 zd; have D1 := cellB hSw D1 zd; first | (go_simp; done) | (go_simp; with_reducible rfl) | (trace_state; fail)
        try simp only [Act.put, List.setIfInBounds_toArray, List.set_cons_zero, List.set_cons_succ]
        refine wpAnyH_take (i := 3) (oi := { dst := some 93, op := Op.move (Operand.tmp 14), type := 35, pos := _, after := #[], guard := none }) (v := ?_) rfl (by kernel_rfl) (by kernel_rfl) (by kernel_rfl) (fun _ _ _ h => h) (Or.inl ⟨by rfl, ?_⟩) (by assumption) ?_
        rotate_left
        · intro wt hSw; (try dsimp only at hSw); have D0 := cellB hSw D0 zd; have D1 := cellB hSw D1 zd; first | (go_simp; done) | (go_simp; with_reducible rfl) | (trace_state; fail)
        try simp only [Act.put, List.setIfInBounds_toArray, List.set_cons_zero, List.set_cons_succ]
        refine wpAnyH_take (i := 4) (oi := { dst := some 94, op := Op.indexAddr 35 (Operand.tmp 93) (Operand.const (Value.int IntKind.i64 0)), type := 0, pos := _, after := #[{ on := 3, ground := Ground.data }], guard := none }) (v := ?_) rfl (by kernel_rfl) (by kernel_rfl) (by kernel_rfl) (fun _ _ _ h => h) (Or.inl ⟨by rfl, ?_⟩) (by assumption) ?_
        rotate_left
        · intro wt hSw; (try dsimp only at hSw); have D0 := cellB hSw D0 zd; have D1 := cellB hSw D1 zd; first | (go_simp; done) | (go_simp; with_reducible rfl) | (trace_state; fail)
        try simp only [Act.put, List.setIfInBounds_toArray, List.set_cons_zero, List.set_cons_succ]
        refine wpAnyH_take (i := 5) (oi := { dst := some 95, op := Op.load 3 (Operand.tmp 94), type := 3, pos := _, after := #[{ on := 4, ground := Ground.data }], guard := none }) (v := ?_) rfl (by kernel_rfl) (by kernel_rfl) (by kernel_rfl) (fun _ _ _ h => h) (Or.inl ⟨by rfl, ?_⟩) (by assumption) ?_
        rotate_left
        · intro wt hSw; (try dsimp only at hSw); have D0 := cellB hSw D0 zd; have D1 := cellB hSw D1 zd; first | (go_simp; done) | (go_simp; with_reducible rfl) | (trace_state; fail)
        try simp only [Act.put, List.setIfInBounds_toArray, List.set_cons_zero, List.set_cons_succ]
        refine wpAnyH_ready (rs := [6]) (by kernel_rfl) (by simp) ?_
        refine AllReadyH.cons (o := { dst := some 96, op := Op.buildSlice 35 2 #[(0, Operand.tmp 92), (1, Operand.tmp 95)], type := 35, pos := _, after := #[{ on := 2, ground := Ground.data }, { on := 5, ground := Ground.data }], guard := none }) rfl (fun K hK => ?_) AllReadyH.nil
        go_simp
        refine hK.out _ _ ?_ (fun hHeld => ?_)
        · (try dsimp only); first | assumption | exact Below.alloc hHeld hHeld.size _ | exact (Below.refl _ _).drew | exact Below.drew (Below.refl _ _) | exact Below_drewN _ _ _ | exact Below.refl _ _ | (trace_state; fail)
        clear hK K
        try simp only [Act.put, List.setIfInBounds_toArray, List.set_cons_zero, List.set_cons_succ]
        refine wpAnyH_ready (rs := [7]) (by kernel_rfl) (by simp) ?_
        refine AllReadyH.cons (o := { dst := some 97, op := Op.call { callee := Callee.value (Operand.func 105), args := #[Operand.const (Value.slice none 0 0), Operand.tmp 96], argTypes := #[35, 35] }, type := 35, pos := _, after := #[{ on := 6, ground := Ground.data }], guard := none }) rfl (fun K hK => ?_) AllReadyH.nil
        go_simp
        refine (hPut.out _ _ y1 y0 HI1.out HI0.out (by first | (go_cell; done) | (simp [go_sem]; done)) (by first | (go_cell; done) | (simp [go_sem]; done))).mono ?_; rintro e w3 ⟨r3, rfl, hr3, hb3⟩; obtain ⟨ra3, rc3, rfl⟩ := row_get hr3; have Hr3 := Lib.hid hr3; have hHeld := hHeld.trans (hb3.mono hHeld.size); clear hb3 hr3
        go_wp2_with fail
        refine hK.out _ _ ?_ (fun hHeld => ?_)
        · (try dsimp only); first | assumption | exact Below.alloc hHeld hHeld.size _ | exact (Below.refl _ _).drew | exact Below.drew (Below.refl _ _) | exact Below_drewN _ _ _ | exact Below.refl _ _ | (trace_state; fail)
        clear hK K
        try simp only [Act.put, List.setIfInBounds_toArray, List.set_cons_zero, List.set_cons_succ]
        refine wpAnyH_take (i := 8) (oi := { dst := some 12, op := Op.assign (Operand.tmp 97), type := 35, pos := _, after := #[{ on := 7, ground := Ground.data }, { on := 7, ground := Ground.chain }, { on := 0, ground := Ground.phase }, { on := 1, ground := Ground.phase }, { on := 2, ground := Ground.phase }, { on := 3, ground := Ground.phase }, { on := 4, ground := Ground.phase }, { on := 5, ground := Ground.phase }, { on := 6, ground := Ground.phase }, { on := 7, ground := Ground.phase }], guard := none }) (v := ?_) rfl (by kernel_rfl) (by kernel_rfl) (by kernel_rfl) (fun _ _ _ h => h) (Or.inl ⟨by rfl, ?_⟩) (by assumption) ?_
        rotate_left
        · intro wt hSw; (try dsimp only at hSw); have D0 := cellB hSw D0 zd; have D1 := cellB hSw D1 zd; first | (go_simp; done) | (go_simp; with_reducible rfl) | (trace_state; fail)
        try simp only [Act.put, List.setIfInBounds_toArray, List.set_cons_zero, List.set_cons_succ]
        refine wpAnyH_done (by kernel_rfl) ?_ _
        have hB3 := hBW2.trans (hHeld.mono hBW2.size)
        by_cases c32 : 32 < n - k + 2
        · have f32 : (32 < (n : Int) - (k : Int) + 2) = True := eq_true (by omega)
          have hs := Lib.hid (H32'.out (by simpa using c32))
          clear c32
          go_wp2_with fail
          go_returns
          exact ⟨_, by rw [hs.out.1]; rfl, by rw [hs.out.2]; exact row_none, hB3⟩
        · have f32 : (32 < (n : Int) - (k : Int) + 2) = False := eq_false (by omega)
          have hs := Lib.hid (H0'.out (by simpa using c32))
          clear c32
          go_wp2_with fail
          refine (stack_put _ _ tt [y1, y0] _ (HTr.out.below intR_stable hB3) Hr3.out (by have := HDL.out.2; omega) (by simp)).mono ?_; rintro e w4 ⟨r, rfl, hr, hb4⟩
          have Hr := Lib.hid hr
          have hB4 := hB3.trans (hb4.mono hB3.size)
          clear hr hb4
          go_wp2_with fail
          go_returns
          exact ⟨_, by rw [hs.out.1]; rfl, by rw [hs.out.2]; exact Hr.out, hB4⟩
  have v27 : (o == 27) = false := by simpa using d27
  have v29 : (o == 29) = false := by simpa using d29
  clear d27 d29
  rcases HS1.out with ⟨⟨s1, s1b⟩, s2⟩ | ⟨s1, s1b⟩
  · skip
    go_enter Tryz.func79, Tryz.ntmps79
    go_wp2_with fail
    refine (HO.out _ (by (repeat' (first | (with_reducible exact Below.refl _ _) | (with_reducible assumption) | (with_reducible refine below_drewN ?_ _) | (with_reducible refine Below.alloc ?_ ?_ _) | (with_reducible refine Below.drew ?_) | (with_reducible refine Below.setCell ?_ ?_ _) | go_size)))).mono ?_; rintro e w1 ⟨rfl, hb1⟩
    rw [← HW0.out] at hb1
    have hb1w := k4.trans (hb1.mono k4.size)
    have e00 := (K1.out.keep z1 hb1) 0 _ rfl
    have e01 := (K1.out.keep z1 hb1) 1 _ rfl
    have e02 := (K1.out.keep z1 hb1) 2 _ rfl
    have e03 := (K1.out.keep z1 hb1) 3 _ rfl
    have e20 := (K2.out.keep k3 hb1) 0 _ rfl
    have e21 := (K2.out.keep k3 hb1) 1 _ rfl
    have e22 := (K2.out.keep k3 hb1) 2 _ rfl
    go_wp2_with fail
    refine (HE.out _ hb1w).mono ?_; rintro e w2 ⟨x1, x2, rfl, hx1, hx2, hb2⟩
    have hb2 := hb1.trans (hb2.mono hb1.size)
    have hB2 := k4.trans (hb2.mono k4.size)
    clear e00 e01 e02 e03 e20 e21 e22
    have E20 := (K2.out.keep k3 hb2) 0 _ rfl
    obtain ⟨xa, xc, rfl⟩ := row_get hx1
    obtain ⟨ya, yc, rfl⟩ := row_get hx2
    have HX1 := Lib.hid hx1
    have HX2 := Lib.hid hx2
    rw [hm] at HX1 ⊢
    have z2 : w.heap.size + 1 < w2.heap.size := Nat.lt_of_lt_of_le k3 hb2.size
    clear hx1 hx2 hb1 hb1w
    go_wp2_with fail
    go_loopw [53] (fun jj wr => ∃ k d : Nat, k ≤ m ∧ jj = .int .i64 k ∧ Hid (∀ j, j < k → tk.getD j 0 = 0 ∨ dd.getD j 0 = 0 ∨ tk.getD j 0 = dd.getD j 0) ∧ wr = w2.drewN d) (fun jj _ => m - (intOf jj).toNat)
    case atStart => exact ⟨0, 0, by omega, rfl, Lib.hid (fun j hj => by omega), rfl⟩
    case round =>
      obtain ⟨k, d, hk, rfl, hall, rfl⟩ := hrel
      by_cases hlt : k < m
      · obtain ⟨t, ht⟩ := get_some (L := tk) (n := k) (by have := HN.out.2; omega)
        obtain ⟨y, hy⟩ := get_some (L := dd) (n := k) (by have := HDL.out.1; omega)
        obtain ⟨bx, ox, rfl, hbx, hcx⟩ := ints_at HX1.out (lt_of_get ht)
        obtain ⟨g0, _⟩ := hcx k t ht
        obtain ⟨by', oy, rfl, hby, hcy⟩ := ints_at HDr.out (lt_of_get hy)
        obtain ⟨g1', _⟩ := hcy k y hy
        have g1 := (hB2.cell (p := ⟨by', oy + k, none⟩) hby).trans g1'
        have hk1 : ∀ (hh : t = 0 ∨ y = 0 ∨ t = y), ∀ j, j < k + 1 → tk.getD j 0 = 0 ∨ dd.getD j 0 = 0 ∨ tk.getD j 0 = dd.getD j 0 := by
          intro hh j hj
          by_cases hjk : j = k
          · subst hjk; simpa [List.getD, ht, hy] using hh
          · exact hall.out j (by omega)
        have HK1 := Lib.hid hk1
        have HNo := Lib.hid (fun a1 a2 a3 => H10.out (fitsT_no ht hy a1 a2 a3))
        clear hk1 hcx hcy ht hy g1'
        by_cases c1 : t = 0
        · have f1 : (t != 0) = false := by simp [c1]
          have hs := Lib.hid (HK1.out (Or.inl c1))
          clear c1
          go_wp2_with fail
          go_roundw
          case rel => exact ⟨k + 1, _, by omega, by simp, hs, rfl⟩
          case measure => first | (simp [intOf]; done) | (simp [intOf]; omega)
        · have f1 : (t != 0) = true := by simpa using c1
          by_cases c2 : y = 0
          · have f2 : (y != 0) = false := by simp [c2]
            have hs := Lib.hid (HK1.out (Or.inr (Or.inl c2)))
            clear c1 c2
            go_wp2_with fail
            go_roundw
            case rel => exact ⟨k + 1, _, by omega, by simp, hs, rfl⟩
            case measure => first | (simp [intOf]; done) | (simp [intOf]; omega)
          · have f2 : (y != 0) = true := by simpa using c2
            by_cases c3 : t = y
            · have f3 : (t != y) = false := by simp [c3]
              have hs := Lib.hid (HK1.out (Or.inr (Or.inr c3)))
              clear c1 c2 c3
              go_wp2_with fail
              go_roundw
              case rel => exact ⟨k + 1, _, by omega, by simp, hs, rfl⟩
              case measure => first | (simp [intOf]; done) | (simp [intOf]; omega)
            · have f3 : (t != y) = true := by simpa using c3
              have hs := Lib.hid (HNo.out c1 c2 c3)
              clear c1 c2 c3
              go_wp2_with fail
              go_returns
              exact ⟨_, by rw [hs.out.1]; rfl, by rw [hs.out.2]; exact row_none, below_drewN hB2 _⟩
      · obtain rfl : k = m := by omega
        have HF := Lib.hid (fitsT_yes (tk := tk) (top := dd) (fun j hj => hall.out j (by have := HN.out.2; omega)))
        clear hall
        have hlv : lvS o lv dd = lv := by unfold lvS; rw [if_neg (by simpa using v27), if_neg (by simpa using v29)]
        have H32' := Lib.hid (H32.out HF.out)
        have H0' := Lib.hid (H0.out HF.out)
        rw [hlv] at H32' H0'
        clear hlv
        obtain ⟨q, hq⟩ : ∃ q, lv.length = q := ⟨_, rfl⟩
        rw [hq] at H32' H0' HX2 b2
        simp only [hq]
        have Hq := Lib.hid hq
        clear hq
        by_cases c32 : 32 < n - k + q
        · have f32 : (32 < (n : Int) - (k : Int) + (q : Int)) = True := eq_true (by omega)
          have hs := Lib.hid (H32'.out c32)
          clear c32
          go_wp2_with fail
          go_returns
          exact ⟨_, by rw [hs.out.1]; rfl, by rw [hs.out.2]; exact row_none, below_drewN hB2 _⟩
        · have f32 : (32 < (n : Int) - (k : Int) + (q : Int)) = False := eq_false (by omega)
          have hs := Lib.hid (H0'.out c32)
          clear c32
          go_wp2_with fail
          refine (stack_put _ _ tt lv _ (HTr.out.below intR_stable (below_drewN hB2 _)) (HX2.out.below intR_stable (Below_drewN _ _ _)) (by have := HDL.out.2; omega) (by have := Hq.out; omega)).mono ?_; rintro e w3 ⟨r, rfl, hr, hb3⟩
          have Hr := Lib.hid hr
          have hB3 := (below_drewN hB2 d).trans (hb3.mono (below_drewN hB2 d).size)
          clear hr hb3
          go_wp2_with fail
          go_returns
          exact ⟨_, by rw [hs.out.1]; rfl, by rw [hs.out.2]; exact Hr.out, hB3⟩
  · cases s2 : (o == 34)
    all_goals
      go_enter Tryz.func79, Tryz.ntmps79
      go_wp2_with fail
      refine (HO.out _ (by (repeat' (first | (with_reducible exact Below.refl _ _) | (with_reducible assumption) | (with_reducible refine below_drewN ?_ _) | (with_reducible refine Below.alloc ?_ ?_ _) | (with_reducible refine Below.drew ?_) | (with_reducible refine Below.setCell ?_ ?_ _) | go_size)))).mono ?_; rintro e w1 ⟨rfl, hb1⟩
      rw [← HW0.out] at hb1
      have hb1w := k4.trans (hb1.mono k4.size)
      have e00 := (K1.out.keep z1 hb1) 0 _ rfl
      have e01 := (K1.out.keep z1 hb1) 1 _ rfl
      have e02 := (K1.out.keep z1 hb1) 2 _ rfl
      have e03 := (K1.out.keep z1 hb1) 3 _ rfl
      have e20 := (K2.out.keep k3 hb1) 0 _ rfl
      have e21 := (K2.out.keep k3 hb1) 1 _ rfl
      have e22 := (K2.out.keep k3 hb1) 2 _ rfl
      go_wp2_with fail
      refine (HE.out _ hb1w).mono ?_; rintro e w2 ⟨x1, x2, rfl, hx1, hx2, hb2⟩
      have hb2 := hb1.trans (hb2.mono hb1.size)
      have hB2 := k4.trans (hb2.mono k4.size)
      clear e00 e01 e02 e03 e20 e21 e22
      have E20 := (K2.out.keep k3 hb2) 0 _ rfl
      obtain ⟨xa, xc, rfl⟩ := row_get hx1
      obtain ⟨ya, yc, rfl⟩ := row_get hx2
      have HX1 := Lib.hid hx1
      have HX2 := Lib.hid hx2
      rw [hm] at HX1 ⊢
      have z2 : w.heap.size + 1 < w2.heap.size := Nat.lt_of_lt_of_le k3 hb2.size
      clear hx1 hx2 hb1 hb1w
      go_wp2_with fail
      go_loopw [53] (fun jj wr => ∃ k d : Nat, k ≤ m ∧ jj = .int .i64 k ∧ Hid (∀ j, j < k → tk.getD j 0 = 0 ∨ dd.getD j 0 = 0 ∨ tk.getD j 0 = dd.getD j 0) ∧ wr = w2.drewN d) (fun jj _ => m - (intOf jj).toNat)
      case atStart => exact ⟨0, 0, by omega, rfl, Lib.hid (fun j hj => by omega), rfl⟩
      case round =>
        obtain ⟨k, d, hk, rfl, hall, rfl⟩ := hrel
        by_cases hlt : k < m
        · obtain ⟨t, ht⟩ := get_some (L := tk) (n := k) (by have := HN.out.2; omega)
          obtain ⟨y, hy⟩ := get_some (L := dd) (n := k) (by have := HDL.out.1; omega)
          obtain ⟨bx, ox, rfl, hbx, hcx⟩ := ints_at HX1.out (lt_of_get ht)
          obtain ⟨g0, _⟩ := hcx k t ht
          obtain ⟨by', oy, rfl, hby, hcy⟩ := ints_at HDr.out (lt_of_get hy)
          obtain ⟨g1', _⟩ := hcy k y hy
          have g1 := (hB2.cell (p := ⟨by', oy + k, none⟩) hby).trans g1'
          have hk1 : ∀ (hh : t = 0 ∨ y = 0 ∨ t = y), ∀ j, j < k + 1 → tk.getD j 0 = 0 ∨ dd.getD j 0 = 0 ∨ tk.getD j 0 = dd.getD j 0 := by
            intro hh j hj
            by_cases hjk : j = k
            · subst hjk; simpa [List.getD, ht, hy] using hh
            · exact hall.out j (by omega)
          have HK1 := Lib.hid hk1
          have HNo := Lib.hid (fun a1 a2 a3 => H10.out (fitsT_no ht hy a1 a2 a3))
          clear hk1 hcx hcy ht hy g1'
          by_cases c1 : t = 0
          · have f1 : (t != 0) = false := by simp [c1]
            have hs := Lib.hid (HK1.out (Or.inl c1))
            clear c1
            go_wp2_with fail
            go_roundw
            case rel => exact ⟨k + 1, _, by omega, by simp, hs, rfl⟩
            case measure => first | (simp [intOf]; done) | (simp [intOf]; omega)
          · have f1 : (t != 0) = true := by simpa using c1
            by_cases c2 : y = 0
            · have f2 : (y != 0) = false := by simp [c2]
              have hs := Lib.hid (HK1.out (Or.inr (Or.inl c2)))
              clear c1 c2
              go_wp2_with fail
              go_roundw
              case rel => exact ⟨k + 1, _, by omega, by simp, hs, rfl⟩
              case measure => first | (simp [intOf]; done) | (simp [intOf]; omega)
            · have f2 : (y != 0) = true := by simpa using c2
              by_cases c3 : t = y
              · have f3 : (t != y) = false := by simp [c3]
                have hs := Lib.hid (HK1.out (Or.inr (Or.inr c3)))
                clear c1 c2 c3
                go_wp2_with fail
                go_roundw
                case rel => exact ⟨k + 1, _, by omega, by simp, hs, rfl⟩
                case measure => first | (simp [intOf]; done) | (simp [intOf]; omega)
              · have f3 : (t != y) = true := by simpa using c3
                have hs := Lib.hid (HNo.out c1 c2 c3)
                clear c1 c2 c3
                go_wp2_with fail
                go_returns
                exact ⟨_, by rw [hs.out.1]; rfl, by rw [hs.out.2]; exact row_none, below_drewN hB2 _⟩
        · obtain rfl : k = m := by omega
          have HF := Lib.hid (fitsT_yes (tk := tk) (top := dd) (fun j hj => hall.out j (by have := HN.out.2; omega)))
          clear hall
          have hlv : lvS o lv dd = lv := by unfold lvS; rw [if_neg (by simpa using v27), if_neg (by simpa using v29)]
          have H32' := Lib.hid (H32.out HF.out)
          have H0' := Lib.hid (H0.out HF.out)
          rw [hlv] at H32' H0'
          clear hlv
          obtain ⟨q, hq⟩ : ∃ q, lv.length = q := ⟨_, rfl⟩
          rw [hq] at H32' H0' HX2 b2
          simp only [hq]
          have Hq := Lib.hid hq
          clear hq
          by_cases c32 : 32 < n - k + q
          · have f32 : (32 < (n : Int) - (k : Int) + (q : Int)) = True := eq_true (by omega)
            have hs := Lib.hid (H32'.out c32)
            clear c32
            go_wp2_with fail
            go_returns
            exact ⟨_, by rw [hs.out.1]; rfl, by rw [hs.out.2]; exact row_none, below_drewN hB2 _⟩
          · have f32 : (32 < (n : Int) - (k : Int) + (q : Int)) = False := eq_false (by omega)
            have hs := Lib.hid (H0'.out c32)
            clear c32
            go_wp2_with fail
            refine (stack_put _ _ tt lv _ (HTr.out.below intR_stable (below_drewN hB2 _)) (HX2.out.below intR_stable (Below_drewN _ _ _)) (by have := HDL.out.2; omega) (by have := Hq.out; omega)).mono ?_; rintro e w3 ⟨r, rfl, hr, hb3⟩
            have Hr := Lib.hid hr
            have hB3 := (below_drewN hB2 d).trans (hb3.mono (below_drewN hB2 d).size)
            clear hr hb3
            go_wp2_with fail
            go_returns
            exact ⟨_, by rw [hs.out.1]; rfl, by rw [hs.out.2]; exact Hr.out, hB3⟩
end Go.Proofs.YtefejcofmopjfaaGreatDoor
